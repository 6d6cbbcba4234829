package route_test

import (
	"bytes"
	"math"
	"slices"
	"strings"
	"testing"

	"armoire/api"
	"armoire/route"
)

// owner is a group, and where its keys begin.
func owner(group int, from string) api.Owner { return api.Owner{Group: group, From: []byte(from)} }

// three has two base groups, and three groups of entries, which do not rise.
func three() api.Routes {
	return api.Routes{Epoch: 4, Base: 2, Spans: []api.Owner{owner(3, "x"), owner(5, "xd"), owner(4, "xm")}}
}

// moving is the same, with the second of these about to be cut.
func moving() api.Routes {
	r := three()
	r.Moving, r.Cut = 5, []byte("xf")
	return r
}

// full has as many groups as there may be.
func full() api.Routes {
	return api.Routes{Epoch: 9, Base: api.MaxBase, Spans: []api.Owner{owner(8, "x"), owner(6, "x\x00"), owner(7, "x\x00\x00"), owner(5, "x\xff\xff")}}
}

// same: are two routes the same?
func same(a, b api.Routes) bool {
	alike := func(p, q api.Owner) bool { return p.Group == q.Group && bytes.Equal(p.From, q.From) }
	return a.Epoch == b.Epoch && a.Base == b.Base && a.Moving == b.Moving && bytes.Equal(a.Cut, b.Cut) && slices.EqualFunc(a.Spans, b.Spans, alike)
}

// oddGroups are no groups of three.
var oddGroups = []int{0, 6 + 1, 100, -1, -3, math.MaxInt, math.MinInt, 1<<32 + 3}

// Words: what is right, with the edges of each number and each length.
func TestRight(t *testing.T) {
	long := "x" + strings.Repeat("a", api.MaxKey-1)
	for what, r := range map[string]api.Routes{
		"three":                   three(),
		"one that moves":          moving(),
		"as many as may be":       full(),
		"the least":               {Base: 1, Spans: []api.Owner{owner(2, "x")}},
		"the greatest epoch":      {Epoch: math.MaxInt, Base: 1, Spans: []api.Owner{owner(2, "x")}},
		"the greatest group":      {Base: 1, Spans: []api.Owner{owner(1+api.MaxSpare, "x")}},
		"a long From":             {Base: 1, Spans: []api.Owner{owner(2, "x"), owner(3, long)}},
		"a long Cut":              {Base: 1, Spans: []api.Owner{owner(2, "x")}, Moving: 2, Cut: []byte(long)},
		"a Cut at once":           {Base: 1, Spans: []api.Owner{owner(2, "x"), owner(3, "x\x00\x00")}, Moving: 2, Cut: []byte("x\x00")},
		"a Cut far in the last":   {Base: 1, Spans: []api.Owner{owner(2, "x"), owner(3, "xa")}, Moving: 3, Cut: []byte("x\xff\xff")},
		"an empty Cut":            {Base: 1, Spans: []api.Owner{owner(2, "x")}, Cut: []byte{}},
		"From rises by one byte":  {Base: 1, Spans: []api.Owner{owner(2, "x"), owner(3, "xa"), owner(4, "xa\x00"), owner(5, "xb")}},
		"groups that fall":        {Base: 1, Spans: []api.Owner{owner(5, "x"), owner(4, "xa"), owner(3, "xb"), owner(2, "xc")}},
		"the first of all moves":  {Base: 4, Spans: []api.Owner{owner(8, "x"), owner(5, "xz")}, Moving: 8, Cut: []byte("xy")},
		"the last one of all has": {Base: 4, Spans: []api.Owner{owner(8, "x"), owner(5, "xz")}, Moving: 5, Cut: []byte("xz\x00")},
	} {
		if !route.Right(r) {
			t.Errorf("P14: %s: not right", what)
		}
	}
}

// Words: what is not right, for one reason each.
func TestNotRight(t *testing.T) {
	for what, turn := range map[string]func(r *api.Routes){
		"an epoch below 0":           func(r *api.Routes) { r.Epoch = -1 },
		"the least epoch":            func(r *api.Routes) { r.Epoch = math.MinInt },
		"no base group":              func(r *api.Routes) { r.Base = 0 },
		"fewer base groups":          func(r *api.Routes) { r.Base = -1 },
		"a base group more":          func(r *api.Routes) { *r = full(); r.Base = 5; r.Spans[3].Group = 9 },
		"base groups past all":       func(r *api.Routes) { r.Base = math.MaxInt },
		"no group of entries":        func(r *api.Routes) { r.Spans = nil },
		"an empty list of groups":    func(r *api.Routes) { r.Spans = []api.Owner{} },
		"a group of entries more":    func(r *api.Routes) { *r = full(); r.Spans = append(r.Spans, owner(9, "x\xff\xff\xff")) },
		"the first From of none":     func(r *api.Routes) { r.Spans[0].From = nil },
		"the first From behind":      func(r *api.Routes) { r.Spans[0].From = []byte("x\x00") },
		"the first From ahead":       func(r *api.Routes) { r.Spans[0].From = []byte("w") },
		"the first From of rows":     func(r *api.Routes) { r.Spans[0].From = []byte("r") },
		"a From of none":             func(r *api.Routes) { r.Spans[1].From = nil },
		"a From of all":              func(r *api.Routes) { r.Spans[1].From = []byte("x") },
		"a From past the next":       func(r *api.Routes) { r.Spans[1].From = []byte("xn") },
		"a From twice":               func(r *api.Routes) { r.Spans[1].From = []byte("xm") },
		"a From past all entries":    func(r *api.Routes) { r.Spans[2].From = []byte("y") },
		"a From far past them":       func(r *api.Routes) { r.Spans[2].From = []byte("\xff") },
		"a From that is too long":    func(r *api.Routes) { r.Spans[2].From = []byte("xm" + strings.Repeat("a", api.MaxKey-1)) },
		"a group twice":              func(r *api.Routes) { r.Spans[2].Group = 3 },
		"a group twice, side by one": func(r *api.Routes) { r.Spans[2].Group = 5 },
		"a base group of entries":    func(r *api.Routes) { r.Spans[2].Group = 2 },
		"a group past all":           func(r *api.Routes) { r.Spans[2].Group = 7 },
		"a group 0":                  func(r *api.Routes) { r.Spans[0].Group = 0 },
		"a group below 0":            func(r *api.Routes) { r.Spans[0].Group = -3 },
		"the greatest group":         func(r *api.Routes) { r.Spans[0].Group = math.MaxInt },
		"the least group":            func(r *api.Routes) { r.Spans[0].Group = math.MinInt },
		"a Cut of nothing that goes": func(r *api.Routes) { r.Cut = []byte("xf") },
		"a Cut of one byte likewise": func(r *api.Routes) { r.Cut = []byte("x") },
		"no Cut":                     func(r *api.Routes) { r.Moving = 5 },
		"a Cut at its From":          func(r *api.Routes) { r.Moving, r.Cut = 5, []byte("xd") },
		"a Cut ahead of its From":    func(r *api.Routes) { r.Moving, r.Cut = 5, []byte("xc\xff") },
		"a Cut at the next From":     func(r *api.Routes) { r.Moving, r.Cut = 5, []byte("xm") },
		"a Cut behind the next From": func(r *api.Routes) { r.Moving, r.Cut = 5, []byte("xn") },
		"a Cut at the first of all":  func(r *api.Routes) { r.Moving, r.Cut = 3, []byte("x") },
		"a Cut behind all entries":   func(r *api.Routes) { r.Moving, r.Cut = 4, []byte("y") },
		"a Cut that is too long":     func(r *api.Routes) { r.Moving, r.Cut = 4, []byte("xm"+strings.Repeat("a", api.MaxKey-1)) },
		"a base group moves":         func(r *api.Routes) { r.Moving, r.Cut = 2, []byte("xf") },
		"a group without keys moves": func(r *api.Routes) { r.Moving, r.Cut = 6, []byte("xf") },
		"a group below 0 moves":      func(r *api.Routes) { r.Moving, r.Cut = -1, []byte("xf") },
	} {
		r := three()
		turn(&r)
		if route.Right(r) {
			t.Errorf("P14: %s: right", what)
		}
	}
	if route.Right(api.Routes{}) {
		t.Error("P14: the zero routes: right")
	}
}

// P14.1: New, for all that may be, and what may not.
func TestNew(t *testing.T) {
	for base := -2; base <= api.MaxBase+2; base++ {
		for spare := -2; spare <= api.MaxSpare+2; spare++ {
			want, code := api.Routes{}, api.ErrArg
			if base >= 1 && base <= 4 && spare >= 1 && spare <= 4 {
				want, code = api.Routes{Base: base, Spans: []api.Owner{owner(base+1, "x")}}, api.OK
			}
			r, e := route.New(base, spare)
			if e != code || !same(r, want) || e == api.OK && !route.Right(r) {
				t.Errorf("P14.1: New(%d, %d): %+v, %v", base, spare, r, e)
			}
		}
	}
	for _, n := range []int{math.MaxInt, math.MinInt, 1<<32 + 1} {
		if r, e := route.New(n, 1); e != api.ErrArg || !same(r, api.Routes{}) {
			t.Errorf("P14.1: New(%d, 1): %+v, %v", n, r, e)
		}
		if r, e := route.New(1, n); e != api.ErrArg || !same(r, api.Routes{}) {
			t.Errorf("P14.1: New(1, %d): %+v, %v", n, r, e)
		}
	}
}

// P14.1: the hash, by numbers that were worked out elsewhere: 17 of no bytes, then 31 times it and the byte.
func TestBaseByHand(t *testing.T) {
	for _, x := range []struct {
		name string
		hash int
	}{
		{"", 17},
		{"r", 641},
		{"ra", 19968},
		{"\x00", 527},
		{"\xff", 782},
		{"r\xff\xff", 624161},
		{"r\x00\x00", 616001},
		{"rrrrr", 595486337},
		{"rrrrrr", 1280207377}, // from here on it has gone round
		{"r\x02\x80abc", 1177173251},
		{strings.Repeat("r", api.MaxKey), 1769760785},
		{"r\x02\x80\x00\x00\x00\x00\x00\x00\x01\x02\x80\x00\x00\x00\x00\x00\x00\x05", 3810150309}, // above 2^31
	} {
		for base := 1; base <= api.MaxBase; base++ {
			r := api.Routes{Base: base, Spans: []api.Owner{owner(base+1, "x")}}
			if n := route.Base(r, []byte(x.name)); n != x.hash%base+1 {
				t.Errorf("P14.1: the base group of %q, of %d: %d; want %d", x.name, base, n, x.hash%base+1)
			}
		}
	}
}

// P14.1: Entry, at all edges; of keys below all the first group, of keys behind all the last one.
func TestEntry(t *testing.T) {
	for key, group := range map[string]int{
		"": 3, "r": 3, "w\xff": 3, "x": 3, "x\x00": 3, "xc\xff\xff": 3,
		"xd": 5, "xd\x00": 5, "xl": 5, "xl\xff": 5,
		"xm": 4, "xm\x00": 4, "x\xff\xff": 4, "y": 4, "\xff": 4,
	} {
		for what, r := range map[string]api.Routes{"three": three(), "moving": moving()} {
			if n := route.Entry(r, []byte(key)); n != group {
				t.Errorf("P14.1: %s: the entries' group of %q: %d; want %d", what, key, n, group)
			}
		}
	}
}

// P14.1: Group asks for the one or the other by the key's first byte alone.
func TestGroup(t *testing.T) {
	r := three()
	for first := range 256 {
		for _, rest := range []string{"", "\x00", "d", "m", "r", "x", "\xff\xff"} {
			key := append([]byte{byte(first)}, rest...)
			want := 0
			switch first {
			case 0x72:
				want = route.Base(r, key)
			case 0x78:
				want = route.Entry(r, key)
			}
			if n := route.Group(r, key); n != want {
				t.Errorf("P14.1: the group of %q: %d; want %d", key, n, want)
			}
		}
	}
	for _, key := range [][]byte{nil, {}} {
		if n := route.Group(r, key); n != 0 {
			t.Errorf("P14.1: the group of no bytes: %d", n)
		}
	}
}
