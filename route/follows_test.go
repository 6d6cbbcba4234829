package route_test

import (
	"bytes"
	"maps"
	"math/rand/v2"
	"slices"
	"testing"

	"armoire/api"
	"armoire/route"
)

// someKeys are some rows' names, some entries' keys, and some of neither, rising: all bounds that the tests use are among them.
func someKeys() []string {
	tails := []string{"", "\x00", "a", "m", "\xff"}
	for _, a := range tails[1:5:5] {
		for _, b := range tails[1:] {
			tails = append(tails, a+b)
		}
	}
	l := []string{""}
	for _, first := range []string{"\x00", "q", "r", "s", "w", "x", "y", "\xff"} {
		for _, tail := range tails {
			l = append(l, first+tail)
		}
	}
	slices.Sort(l)
	return l
}

// told is routes, and what they are said to be: the group of each of some entries' keys.
type told struct {
	r      api.Routes
	base   int
	groups map[string]int
}

// begun is New, and all entries in one group.
func begun(t *testing.T, base, spare int, keys []string) told {
	t.Helper()
	r, e := route.New(base, spare)
	if e != api.OK {
		t.Fatal(e)
	}
	x := told{r: r, base: base, groups: map[string]int{}}
	for _, k := range keys {
		if k != "" && k[0] == 'x' {
			x.groups[k] = base + 1
		}
	}
	return x
}

// within: is the key of the span?
func within(s api.Span, key string) bool {
	return key >= string(s.From) && (len(s.To) == 0 || key < string(s.To))
}

// over is the groups that have some keys of the span.
func (x told) over(s api.Span, keys []string) []int {
	var l []int
	for _, k := range keys {
		if !within(s, k) || k == "" {
			continue
		}
		switch k[0] {
		case 'r':
			for g := range x.base {
				l = append(l, g+1)
			}
		case 'x':
			l = append(l, x.groups[k])
		}
	}
	slices.Sort(l)
	return slices.Compact(l)
}

// has: may the group have that key?
func (x told) has(group int, key string) bool {
	if key == "" {
		return false
	}
	return key[0] == 'r' && group >= 1 && group <= x.base || key[0] == 'x' && x.groups[key] == group
}

// check holds all that is asked of routes against what is told of them.
func (x told) check(t *testing.T, r *rand.Rand, keys []string) {
	t.Helper()
	if !route.Right(x.r) {
		t.Fatalf("P14: not right: %+v", x.r)
	}
	for _, k := range keys {
		g := route.Group(x.r, []byte(k))
		switch {
		case k != "" && k[0] == 'r':
			if g < 1 || g > x.base || g != route.Base(x.r, []byte(k)) {
				t.Fatalf("P14.1: the group of %q: %d", k, g)
			}
		case g != x.groups[k]:
			t.Fatalf("P14.1: the group of %q: %d; want %d", k, g, x.groups[k])
		}
		for group := range 10 {
			if owned := route.Owned(x.r, group); group > x.base && len(owned.To) > 0 && within(owned, k) != x.has(group, k) {
				t.Fatalf("P14.2: %d owns %q to %q, but %q", group, owned.From, owned.To, k)
			}
		}
	}
	for range 40 {
		s := span(keys[r.IntN(len(keys))], keys[r.IntN(len(keys))])
		if r.IntN(2) == 0 && bytes.Compare(s.From, s.To) > 0 {
			s.From, s.To = s.To, s.From
		}
		if l := route.Over(x.r, s); !slices.Equal(l, x.over(s, keys)) {
			t.Fatalf("P14.2: %+v: Over %q to %q: %v; want %v", x.r, s.From, s.To, l, x.over(s, keys))
		}
		x.checkParts(t, s, keys)
	}
}

// checkParts: the parts of a span are just its keys that the groups may have; who has a part is over it.
func (x told) checkParts(t *testing.T, s api.Span, keys []string) {
	t.Helper()
	var with []int
	for group := -1; group < 10; group++ {
		p, is := route.Part(x.r, group, s)
		if is != (len(p.To) > 0) {
			t.Fatalf("P14.2: the part of %d: %q to %q, %v", group, p.From, p.To, is)
		}
		if is {
			with = append(with, group)
		}
		for _, k := range keys {
			if want := within(s, k) && x.has(group, k); (is && within(p, k)) != want {
				t.Fatalf("P14.2: %+v: the part of %d of %q to %q: %q to %q, but %q", x.r, group, s.From, s.To, p.From, p.To, k)
			}
		}
	}
	if !slices.Equal(with, route.Over(x.r, s)) {
		t.Fatalf("P14.2: of %q to %q %v have a part, and Over is %v", s.From, s.To, with, route.Over(x.r, s))
	}
}

// cut cuts at some place; what is refused changes nothing.
func (x *told) cut(t *testing.T, r *rand.Rand, keys []string) {
	t.Helper()
	group, at := r.IntN(10), keys[r.IntN(len(keys))]
	owned := route.Owned(x.r, group)
	want := api.OK
	switch {
	case x.r.Moving != 0:
		want = api.ErrState
	case len(owned.To) == 0:
		want = api.ErrNone
	case x.groups[at] != group || at == string(owned.From):
		want = api.ErrArg
	}
	n, e := route.Cut(x.r, group, []byte(at))
	if e != want || e != api.OK && !same(n, x.r) {
		t.Fatalf("P14.3: Cut of %d at %q of %+v: %+v, %v; want %v", group, at, x.r, n, e, want)
	}
	x.r = n
}

// move moves to some group; the keys behind the cut are that one's, and all others stay.
func (x *told) move(t *testing.T, r *rand.Rand) {
	t.Helper()
	group := r.IntN(10)
	was := maps.Clone(x.groups)
	want := api.OK
	switch {
	case x.r.Moving == 0:
		want = api.ErrState
	case group <= x.base || group > x.base+4 || len(route.Owned(x.r, group).To) > 0:
		want = api.ErrArg
	}
	n, e := route.Moved(x.r, group)
	if e != want || e != api.OK && !same(n, x.r) {
		t.Fatalf("P14.3: Moved to %d of %+v: %+v, %v; want %v", group, x.r, n, e, want)
	}
	if e == api.OK {
		for k, g := range was {
			if g == x.r.Moving && k >= string(x.r.Cut) {
				x.groups[k] = group
			}
		}
	}
	x.r = n
}

// What follows: each key has one group; cut and moved, the keys behind the cut have another one, and the others the same.
func TestFollows(t *testing.T) {
	keys := someKeys()
	for seed := range 24 {
		r := rand.New(rand.NewPCG(uint64(seed), 14))
		x := begun(t, 1+seed%4, 1+r.IntN(4), keys)
		for range 60 {
			epoch := x.r.Epoch
			was := x.r
			switch r.IntN(5) {
			case 0, 1:
				x.cut(t, r, keys)
			default:
				x.move(t, r)
			}
			if changed := !same(was, x.r); changed != (x.r.Epoch == epoch+1) || !changed && x.r.Epoch != epoch {
				t.Fatalf("P14.3: from %+v to %+v", was, x.r)
			}
			if x.r.Moving != 0 && r.IntN(12) == 0 { // it may be given up
				x.r.Moving, x.r.Cut = 0, nil
			}
			if r.IntN(6) == 0 {
				x.check(t, r, keys)
			}
		}
		x.check(t, r, keys)
	}
}
