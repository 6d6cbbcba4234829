package route_test

import (
	"bytes"
	"slices"
	"testing"

	"armoire/api"
	"armoire/route"
)

// given is all that a call may be handed.
type given struct {
	r       api.Routes
	key, at []byte
	s       api.Span
}

// fresh asks of three groups; moves has one that is about to be cut.
func fresh() given {
	return given{r: three(), key: []byte("xe"), at: []byte("xf"), s: span("ra", "xz")}
}

func moves() given {
	g := fresh()
	g.r = moving()
	return g
}

// roomy is l with room behind its end, in which marks stand.
func roomy[T any](l []T, mark T) []T {
	return append(slices.Clone(l), mark, mark)[:len(l)]
}

// room is what stands behind the end of what was made by roomy.
func room[T any](l []T) []T { return l[len(l) : len(l)+2] }

// withRoom is the same, each list with room behind its end.
func withRoom(g given) given {
	g.r.Spans = roomy(g.r.Spans, owner(77, "room"))
	for i := range g.r.Spans {
		g.r.Spans[i].From = roomy(g.r.Spans[i].From, 77)
	}
	g.r.Cut, g.key, g.at = roomy(g.r.Cut, 77), roomy(g.key, 77), roomy(g.at, 77)
	g.s = api.Span{From: roomy(g.s.From, 77), To: roomy(g.s.To, 77)}
	return g
}

// bytesOf is all lists of bytes that were handed in.
func bytesOf(g given) [][]byte {
	l := [][]byte{g.r.Cut, g.key, g.at, g.s.From, g.s.To}
	for _, o := range g.r.Spans {
		l = append(l, o.From)
	}
	return l
}

// whole: is what was made with room as it was, with the room?
func whole(g, was given) bool {
	for _, b := range bytesOf(g) {
		if !bytes.Equal(room(b), []byte{77, 77}) {
			return false
		}
	}
	for _, o := range room(g.r.Spans) {
		if o.Group != 77 || string(o.From) != "room" {
			return false
		}
	}
	return same(g.r, was.r) && slices.EqualFunc(bytesOf(g), bytesOf(was), bytes.Equal)
}

// answer is all that a call may tell.
type answer struct {
	r      api.Routes
	groups []int
	s      api.Span
}

// alike: do two answers tell the same?
func alike(a, b answer) bool {
	return same(a.r, b.r) && slices.Equal(a.groups, b.groups) && sameSpan(a.s, b.s)
}

// calls is each call, with each of its answers that has a list.
func calls() map[string]func(g given) answer {
	cut := func(group int) func(g given) answer {
		return func(g given) answer {
			r, _ := route.Cut(g.r, group, g.at)
			return answer{r: r}
		}
	}
	moved := func(group int) func(g given) answer {
		return func(g given) answer {
			r, _ := route.Moved(g.r, group)
			return answer{r: r}
		}
	}
	owned := func(group int) func(g given) answer {
		return func(g given) answer { return answer{s: route.Owned(g.r, group)} }
	}
	part := func(group int, turn func(s *api.Span)) func(g given) answer {
		return func(g given) answer {
			turn(&g.s)
			s, _ := route.Part(g.r, group, g.s)
			return answer{s: s}
		}
	}
	as := func(*api.Span) {}
	return map[string]func(g given) answer{
		"New": func(given) answer {
			r, _ := route.New(2, 2)
			return answer{r: r}
		},
		"Over":                 func(g given) answer { return answer{groups: route.Over(g.r, g.s)} },
		"Owned, the first":     owned(3),
		"Owned, in between":    owned(5),
		"Owned, the last":      owned(4),
		"Part of rows":         part(1, as),
		"Part, the first":      part(3, as),
		"Part, in between":     part(5, as),
		"Part, the last":       part(4, as),
		"Part, the span's own": part(5, func(s *api.Span) { s.From, s.To = []byte("xe"), []byte("xg") }),
		"Part, one list twice": part(1, func(s *api.Span) { s.From, s.To = s.From[:1:1], nil }),
		"Cut":                  cut(5),
		"Cut, ErrNone":         cut(6),
		"Cut, ErrArg":          cut(3),
		"Moved":                moved(6),
		"Moved, ErrArg":        moved(3),
		"the groups of keys": func(g given) answer {
			return answer{groups: []int{route.Base(g.r, g.key), route.Entry(g.r, g.key), route.Group(g.r, g.key), route.Next(g.r, 4)}}
		},
	}
}

// fill writes into a list, and the room behind its end.
func fill[T any](l []T, v T) {
	l = l[:cap(l)]
	for i := range l {
		l[i] = v
	}
}

// lists is all lists of bytes of an answer.
func lists(a answer) [][]byte {
	l := [][]byte{a.r.Cut, a.s.From, a.s.To}
	for _, o := range a.r.Spans {
		l = append(l, o.From)
	}
	return l
}

// apart: does a list of the answer share memory with another one of it? Each is written into in its turn.
func apart(a answer) bool {
	l := lists(a)
	for i, b := range l {
		fill(b, byte(100+i))
	}
	for i, b := range l {
		if bytes.ContainsFunc(b, func(r rune) bool { return r != rune(100+i) }) {
			return false
		}
	}
	return true
}

// R3: what is handed in, with the room behind its ends, is neither changed nor kept; what is handed out is new, and no two lists of it are one.
func TestMemory(t *testing.T) {
	for what, call := range calls() {
		for _, make := range []func() given{fresh, moves} {
			want := call(make())
			g, was := withRoom(make()), withRoom(make())
			got := call(g)
			if !alike(got, want) || !whole(g, was) {
				t.Errorf("R3: %s: it hangs on the room behind, or changes what was handed in: %+v", what, got)
			}
			if !apart(got) {
				t.Errorf("R3: %s: two lists of one answer share some", what)
			}
			fill(got.r.Spans, owner(99, "spoilt"))
			fill(got.groups, 99)
			if !whole(g, was) {
				t.Errorf("R3: %s: what was handed out is what was handed in", what)
			}
			got = call(g)
			for _, b := range bytesOf(g) {
				fill(b, 99)
			}
			fill(g.r.Spans, owner(99, "spoilt"))
			if !alike(got, want) {
				t.Errorf("R3: %s: what was handed in is kept: %+v", what, got)
			}
			if again := call(make()); !alike(again, want) {
				t.Errorf("R2: %s: another answer: %+v", what, again)
			}
		}
	}
}

// R3: Right changes nothing either.
func TestAskedStays(t *testing.T) {
	for _, make := range []func() given{fresh, moves} {
		g, was := withRoom(make()), withRoom(make())
		if !route.Right(g.r) || !whole(g, was) {
			t.Error("R3: what was asked for is changed")
		}
	}
}

// R3: nil and no bytes are the same.
func TestNilIsEmpty(t *testing.T) {
	none, empty := api.Span{}, api.Span{From: []byte{}, To: []byte{}}
	for group := range 7 {
		a, is := route.Part(three(), group, none)
		b, has := route.Part(three(), group, empty)
		if is != has || !sameSpan(a, b) {
			t.Errorf("R3: Part of %d: %v, %v and %v, %v", group, a, is, b, has)
		}
	}
	if !slices.Equal(route.Over(three(), none), route.Over(three(), empty)) {
		t.Error("R3: Over")
	}
	r := three()
	r.Cut = []byte{}
	a, e := route.Cut(r, 5, []byte("xf"))
	b, f := route.Cut(three(), 5, []byte("xf"))
	if e != api.OK || f != api.OK || !same(a, b) {
		t.Errorf("R3: Cut: %+v, %v and %+v, %v", a, e, b, f)
	}
}
