package route_test

import (
	"bytes"
	"math"
	"slices"
	"testing"

	"armoire/api"
	"armoire/route"
)

// odd are routes that are not right, of which nothing is said but that all calls end.
func odd() []api.Routes {
	var l []api.Routes
	for _, n := range []int{math.MinInt, -1, 0, 7, math.MaxInt, math.MaxInt - 2, 1 << 32} {
		r := moving()
		r.Base = n
		s := three()
		s.Spans[1].Group = n
		u := moving()
		u.Moving = n
		l = append(l, r, s, u, api.Routes{Base: n}, api.Routes{Base: n, Epoch: n, Moving: n}, api.Routes{Base: 1, Moving: n, Cut: []byte("x")})
	}
	twice := three()
	twice.Spans[2].Group = 3
	falls := moving()
	falls.Spans[0], falls.Spans[2] = falls.Spans[2], falls.Spans[0]
	none := three()
	for at := range none.Spans {
		none.Spans[at].From = nil
	}
	past := three()
	past.Spans[2].From = []byte("z")
	long := three()
	long.Spans[1].From = bytes.Repeat([]byte("x"), 1<<20)
	many := api.Routes{Base: 2, Spans: slices.Repeat([]api.Owner{owner(3, "x"), owner(4, "xa"), {}}, 10000)}
	return append(l, api.Routes{}, twice, falls, none, past, long, many, api.Routes{Base: 2, Spans: []api.Owner{{}}})
}

// oddNumbers are groups, and counts of them.
var oddNumbers = []int{math.MinInt, -1, 0, 1, 2, 3, 4, 5, 6, 9, 1 << 32, math.MaxInt - 1, math.MaxInt}

// oddKeys are keys of all kinds.
func oddKeys() [][]byte {
	return [][]byte{nil, {}, {0}, []byte("r"), []byte("ra"), []byte("s"), []byte("x"), []byte("xb"), []byte("xe"), []byte("y"), []byte("\xff\xff"), bytes.Repeat([]byte("r"), 1<<16), bytes.Repeat([]byte("x"), 1<<16)}
}

// R1, R4: whatever is asked, each call answers, and changes nothing that it was given; what a false, or an error, stands beside is as it should be.
func TestOdd(t *testing.T) {
	for i, r := range append(odd(), three(), moving(), full()) {
		was, _ := route.Moved(r, 0)
		route.Right(r)
		for _, key := range oddKeys() {
			route.Base(r, key)
			route.Entry(r, key)
			route.Group(r, key)
			for _, to := range oddKeys() {
				route.Over(r, api.Span{From: key, To: to})
			}
		}
		for _, n := range oddNumbers {
			route.Next(r, n)
			route.Owned(r, n)
			if m, e := route.Moved(r, n); e != api.OK && !same(m, r) {
				t.Errorf("P14.3: the odd routes %d, moved to %d: %v", i, n, e)
			}
			for _, key := range oddKeys() {
				if c, e := route.Cut(r, n, key); e != api.OK && !same(c, r) {
					t.Errorf("P14.3: the odd routes %d, cut at %d: %v", i, n, e)
				}
				if s, is := route.Part(r, n, api.Span{From: key}); !is && !sameSpan(s, api.Span{}) {
					t.Errorf("R4: the odd routes %d: no part of %d: %v", i, n, s)
				}
			}
		}
		if !same(r, was) {
			t.Errorf("R3: the odd routes %d are changed", i)
		}
	}
}

// R1, R7: none of these is right.
func TestOddIsNotRight(t *testing.T) {
	for i, r := range odd() {
		if route.Right(r) {
			t.Errorf("P14: the odd routes %d are right", i)
		}
	}
}
