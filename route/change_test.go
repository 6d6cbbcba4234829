package route_test

import (
	"math"
	"slices"
	"strings"
	"testing"

	"armoire/api"
	"armoire/route"
)

// P14.3: Next is the least one that has nothing; of a cut that is under way nothing counts.
func TestNext(t *testing.T) {
	with := func(base int, groups ...int) api.Routes {
		r := api.Routes{Base: base}
		for at, g := range groups {
			r.Spans = append(r.Spans, owner(g, "x"+strings.Repeat("a", at)))
		}
		return r
	}
	for what, x := range map[string]struct {
		r    api.Routes
		want [7]int // with a spare from -1 to 5
	}{
		"one":             {with(1, 2), [7]int{0, 0, 0, 3, 3, 3, 3}},
		"one of four":     {with(4, 5), [7]int{0, 0, 0, 6, 6, 6, 6}},
		"the first free":  {with(2, 4), [7]int{0, 0, 3, 3, 3, 3, 3}},
		"three":           {three(), [7]int{0, 0, 0, 0, 0, 6, 6}},
		"three that move": {moving(), [7]int{0, 0, 0, 0, 0, 6, 6}},
		"one in between":  {with(2, 6, 3, 5), [7]int{0, 0, 0, 4, 4, 4, 4}},
		"the last ones":   {with(2, 5, 6), [7]int{0, 0, 3, 3, 3, 3, 3}},
		"all of them":     {full(), [7]int{}},
	} {
		for k, want := range x.want {
			if n := route.Next(x.r, k-1); !route.Right(x.r) || n != want {
				t.Errorf("P14.3: %s: Next of %d: %d; want %d", what, k-1, n, want)
			}
		}
	}
	for spare, want := range map[int]int{math.MaxInt: 6, math.MinInt: 0, 1 << 32: 6, 99: 6, -99: 0} {
		if n := route.Next(three(), spare); n != want {
			t.Errorf("P14.3: Next of %d: %d; want %d", spare, n, want)
		}
		if n := route.Next(full(), spare); n != 0 {
			t.Errorf("P14.3: all have some, but Next of %d: %d", spare, n)
		}
	}
}

// P14.3: what may be cut, and where.
func TestCut(t *testing.T) {
	for _, x := range []struct {
		group int
		at    string
	}{
		{3, "x\x00"}, {3, "xa"}, {3, "xc\xff\xff"},
		{5, "xd\x00"}, {5, "xe"}, {5, "xl\xff"},
		{4, "xm\x00"}, {4, "xz"}, {4, "x\xff"}, {4, "x\xff\xff"},
		{4, "xz" + strings.Repeat("\xff", api.MaxKey-2)},
	} {
		want := three()
		want.Moving, want.Cut, want.Epoch = x.group, []byte(x.at), 5
		r, e := route.Cut(three(), x.group, []byte(x.at))
		if e != api.OK || !same(r, want) || !route.Right(r) {
			t.Errorf("P14.3: Cut of %d at %q: %+v, %v", x.group, x.at, r, e)
		}
	}
}

// P14.3: what may not be cut; the routes are as they were.
func TestNoCut(t *testing.T) {
	refused := func(what string, r api.Routes, group int, at string, code api.Errno) {
		t.Helper()
		n, e := route.Cut(r, group, []byte(at))
		if e != code || !same(n, r) {
			t.Errorf("P14.3: %s: Cut of %d at %q: %+v, %v; want %v", what, group, at, n, e, code)
		}
	}
	for group, keys := range map[int][]string{
		3: {"", "w", "r", "x", "xd", "xe", "xz", "y", "\xff"},
		5: {"", "x", "xc\xff", "xd", "xm", "xn", "y", "r"},
		4: {"", "x", "xl", "xm", "y", "y\x00", "\xff", "r", "xz" + strings.Repeat("a", api.MaxKey-1)},
	} {
		for _, at := range keys {
			refused("not of its keys behind its From", three(), group, at, api.ErrArg)
		}
	}
	for _, group := range append(oddGroups, 1, 2, 6) {
		for _, at := range []string{"xb", "", "y", "x"} {
			refused("not of Spans", three(), group, at, api.ErrNone)
		}
	}
	for _, group := range append(oddGroups, 1, 2, 3, 4, 5, 6) {
		for _, at := range []string{"xb", "xf", "xe", "xz", "", "y"} {
			refused("one is under way", moving(), group, at, api.ErrState)
		}
	}
}

// P14.3: what goes to another group, of the first, one in between and the last.
func TestMoved(t *testing.T) {
	for _, x := range []struct {
		moving int
		cut    string
		spans  []api.Owner
	}{
		{3, "xb", []api.Owner{owner(3, "x"), owner(6, "xb"), owner(5, "xd"), owner(4, "xm")}},
		{5, "xf", []api.Owner{owner(3, "x"), owner(5, "xd"), owner(6, "xf"), owner(4, "xm")}},
		{4, "xz", []api.Owner{owner(3, "x"), owner(5, "xd"), owner(4, "xm"), owner(6, "xz")}},
	} {
		r := three()
		r.Moving, r.Cut = x.moving, []byte(x.cut)
		n, e := route.Moved(r, 6)
		if e != api.OK || !same(n, api.Routes{Epoch: 5, Base: 2, Spans: x.spans}) || !route.Right(n) {
			t.Errorf("P14.3: Moved of %d from %q on: %+v, %v", x.moving, x.cut, n, e)
		}
	}
	for group := 2; group <= 1+api.MaxSpare; group++ { // it need not be the next one
		r := api.Routes{Base: 1, Spans: []api.Owner{owner(2, "x")}, Moving: 2, Cut: []byte("xa")}
		n, e := route.Moved(r, group)
		if group == 2 {
			if e != api.ErrArg || !same(n, r) {
				t.Errorf("P14.3: Moved to itself: %+v, %v", n, e)
			}
			continue
		}
		if e != api.OK || !same(n, api.Routes{Epoch: 1, Base: 1, Spans: []api.Owner{owner(2, "x"), owner(group, "xa")}}) {
			t.Errorf("P14.3: Moved to %d: %+v, %v", group, n, e)
		}
	}
}

// P14.3: what may not be moved; the routes are as they were.
func TestNotMoved(t *testing.T) {
	refused := func(what string, r api.Routes, group int, code api.Errno) {
		t.Helper()
		n, e := route.Moved(r, group)
		if e != code || !same(n, r) {
			t.Errorf("P14.3: %s: Moved to %d: %+v, %v; want %v", what, group, n, e, code)
		}
	}
	for _, group := range append(oddGroups, 1, 2, 3, 4, 5) {
		refused("a base group, one of Spans, or none", moving(), group, api.ErrArg)
	}
	for _, group := range append(oddGroups, 1, 2, 3, 4, 5, 6) {
		refused("nothing is under way", three(), group, api.ErrState)
	}
	r := full()
	r.Moving, r.Cut = 6, []byte("x\x00\x00")
	r.Spans[2].From = []byte("x\x01")
	for group := range 12 {
		refused("all have some", r, group, api.ErrArg)
	}
}

// P14.3, R7: the epoch does not go round.
func TestEpoch(t *testing.T) {
	r := three()
	r.Epoch = math.MaxInt - 1
	r, e := route.Cut(r, 5, []byte("xf"))
	if e != api.OK || r.Epoch != math.MaxInt || !route.Right(r) {
		t.Errorf("P14.3: the last epoch: %+v, %v", r, e)
	}
	if n, e := route.Moved(r, 6); e != api.ErrFull || !same(n, r) {
		t.Errorf("R7: Moved at the last epoch: %+v, %v", n, e)
	}
	if n, e := route.Moved(r, 5); e != api.ErrArg || !same(n, r) {
		t.Errorf("R5: Moved to one of Spans at the last epoch: %+v, %v", n, e)
	}
	r.Moving, r.Cut = 0, nil
	if n, e := route.Cut(r, 5, []byte("xf")); e != api.ErrFull || !same(n, r) {
		t.Errorf("R7: Cut at the last epoch: %+v, %v", n, e)
	}
	if n, e := route.Cut(r, 5, []byte("xd")); e != api.ErrArg || !same(n, r) {
		t.Errorf("R5: Cut at From at the last epoch: %+v, %v", n, e)
	}
}

// P14.3: cut and moved as often as may be, at whichever end: the spare ones come one by one, and all keys stay with somebody.
func TestAllSpare(t *testing.T) {
	r, _ := route.New(3, 4)
	for _, x := range []struct {
		group int
		at    string
		spans []int
	}{
		{4, "xm", []int{4, 5}},
		{4, "xd", []int{4, 6, 5}},
		{5, "xt", []int{4, 6, 5, 7}},
	} {
		n, e := route.Cut(r, x.group, []byte(x.at))
		if e != api.OK {
			t.Fatalf("P14.3: Cut of %d: %v", x.group, e)
		}
		if r, e = route.Moved(n, route.Next(n, 4)); e != api.OK || !route.Right(r) {
			t.Fatalf("P14.3: Moved of %d: %+v, %v", x.group, r, e)
		}
		var groups []int
		for _, o := range r.Spans {
			groups = append(groups, o.Group)
		}
		if !slices.Equal(groups, x.spans) {
			t.Errorf("P14.3: behind the cut of %d at %q: %v", x.group, x.at, groups)
		}
	}
	if n := route.Next(r, 4); n != 0 || r.Epoch != 6 {
		t.Errorf("P14.3: all have some: Next %d, epoch %d", n, r.Epoch)
	}
	n, e := route.Cut(r, 7, []byte("xz")) // nobody is there to take it; that is not asked for yet
	if e != api.OK || n.Moving != 7 || route.Next(n, 4) != 0 {
		t.Errorf("P14.3: Cut where nobody can take it: %+v, %v", n, e)
	}
}
