package rows_test

import (
	"bytes"
	"slices"
	"testing"

	"armoire/api"
	"armoire/rows"
)

// given is all that a call may be handed.
type given struct {
	t        api.Table
	x        api.Index
	row, key []api.Value
	from, to []api.Value
	pair     api.Pair
	entry    api.Pair
}

// fresh has a row of hats, its entry in a unique index, and two bounds.
func fresh(t *testing.T) given {
	t.Helper()
	g := given{t: hats(), x: named(t, 5), row: hatsRows()[2], key: list(text("k"), num(5)), from: list(text("a")), to: list(text("z"), num(1))}
	g.pair = rows.Pair(g.t, g.row)
	g.entry = rows.Entry(g.t, g.x, g.row)
	return g
}

// roomy is l with room behind its end, in which marks stand.
func roomy[T any](l []T, mark T) []T {
	return append(slices.Clone(l), mark, mark)[:len(l)]
}

// withRoom is the same, each list with room behind its end.
func withRoom(g given) given {
	mark := text("room")
	g.t.Columns, g.t.Key = roomy(g.t.Columns, api.Column{Name: "room"}), roomy(g.t.Key, 77)
	g.x.Columns = roomy(g.x.Columns, 77)
	g.row, g.key, g.from, g.to = roomy(g.row, mark), roomy(g.key, mark), roomy(g.from, mark), roomy(g.to, mark)
	g.pair = api.Pair{Key: roomy(g.pair.Key, 77), Value: roomy(g.pair.Value, 77)}
	g.entry = api.Pair{Key: roomy(g.entry.Key, 77), Value: roomy(g.entry.Value, 77)}
	return g
}

// all is a list with the two marks behind its end.
func all[T any](l []T) []T { return l[:len(l)+2] }

// whole: do two that were made with room have the same, behind their ends, too?
func whole(g, h given) bool {
	values := func(g given) []api.Value {
		return slices.Concat(all(g.row), all(g.key), all(g.from), all(g.to))
	}
	b := func(g given) []byte {
		return slices.Concat(all(g.pair.Key), all(g.pair.Value), all(g.entry.Key), all(g.entry.Value))
	}
	places := func(g given) []int { return slices.Concat(all(g.t.Key), all(g.x.Columns)) }
	return slices.Equal(all(g.t.Columns), all(h.t.Columns)) && slices.Equal(places(g), places(h)) && slices.Equal(values(g), values(h)) && bytes.Equal(b(g), b(h))
}

// answer is all that a call may tell.
type answer struct {
	values []api.Value
	lists  [2][]byte
}

// calls is each call that answers a list.
func calls() map[string]func(g given) answer {
	pair := func(p api.Pair) answer { return answer{lists: [2][]byte{p.Key, p.Value}} }
	span := func(s api.Span, _ api.Errno) answer { return answer{lists: [2][]byte{s.From, s.To}} }
	return map[string]func(g given) answer{
		"Key":  func(g given) answer { return answer{values: rows.Key(g.t, g.row)} },
		"Pair": func(g given) answer { return pair(rows.Pair(g.t, g.row)) },
		"Row": func(g given) answer {
			row, _ := rows.Row(g.t, g.pair)
			return answer{values: row}
		},
		"Name":               func(g given) answer { return answer{lists: [2][]byte{rows.Name(g.t, g.key)}} },
		"Span":               func(g given) answer { return span(rows.Span(g.t, g.from, g.to)) },
		"Span, from alone":   func(g given) answer { return span(rows.Span(g.t, g.from, nil)) },
		"Span, of all":       func(g given) answer { return span(rows.Span(g.t, nil, nil)) },
		"Within":             func(g given) answer { return span(rows.Within(g.x, g.from, g.to)) },
		"Within, from alone": func(g given) answer { return span(rows.Within(g.x, g.from, nil)) },
		"Within, to alone":   func(g given) answer { return span(rows.Within(g.x, nil, g.to)) },
		"Entry":              func(g given) answer { return pair(rows.Entry(g.t, g.x, g.row)) },
		"Owner": func(g given) answer {
			name, _ := rows.Owner(g.t, g.x, g.entry)
			return answer{lists: [2][]byte{name}}
		},
	}
}

// alike: do two answers tell the same?
func alike(a, b answer) bool {
	return slices.Equal(a.values, b.values) && bytes.Equal(a.lists[0], b.lists[0]) && bytes.Equal(a.lists[1], b.lists[1])
}

// fill writes into a list, and the room behind its end.
func fill[T any](l []T, v T) {
	l = l[:cap(l)]
	for i := range l {
		l[i] = v
	}
}

// spoil writes into all that was handed in.
func spoil(g given) {
	fill(g.t.Columns, api.Column{Name: "spoilt", Kind: 9})
	fill(g.t.Key, 99)
	fill(g.x.Columns, 99)
	for _, l := range [][]api.Value{g.row, g.key, g.from, g.to} {
		fill(l, text("spoilt"))
	}
	for _, b := range [][]byte{g.pair.Key, g.pair.Value, g.entry.Key, g.entry.Value} {
		fill(b, 99)
	}
}

// R3: what is handed in, with the room behind its ends, is neither changed nor kept; what is handed out is new, and no two lists of it are one.
func TestMemory(t *testing.T) {
	for what, call := range calls() {
		want := call(fresh(t))
		if len(want.values)+len(want.lists[0]) == 0 {
			t.Errorf("R3: %s answers nothing", what)
		}
		g, was := withRoom(fresh(t)), withRoom(fresh(t))
		got := call(g)
		if !alike(got, want) || !whole(g, was) {
			t.Errorf("R3: %s: it hangs on the room behind, or changes what was handed in: %v", what, got)
		}
		fill(got.lists[0], 99)
		if !bytes.Equal(got.lists[1], want.lists[1]) {
			t.Errorf("R3: %s: two lists of one answer share some", what)
		}
		fill(got.lists[1], 99)
		fill(got.values, text("spoilt"))
		if !whole(g, was) {
			t.Errorf("R3: %s: what was handed out is what was handed in", what)
		}
		got = call(g)
		spoil(g)
		if !alike(got, want) {
			t.Errorf("R3: %s: what was handed in is kept: %v", what, got)
		}
		if again := call(fresh(t)); !alike(again, want) {
			t.Errorf("R2: %s: another answer: %v", what, again)
		}
	}
}

// R3: Right and Fits change nothing either.
func TestAskedStays(t *testing.T) {
	g, was := withRoom(fresh(t)), withRoom(fresh(t))
	if !rows.Right(g.t, g.row) || !rows.Fits(g.t, g.key) || !whole(g, was) {
		t.Error("R3: what was asked for is changed")
	}
}

// R3: nil and an empty list are the same.
func TestNilIsEmpty(t *testing.T) {
	none, empty := []api.Value(nil), []api.Value{}
	a, e := rows.Span(hats(), none, none)
	b, f := rows.Span(hats(), empty, empty)
	if e != f || !bytes.Equal(a.From, b.From) || !bytes.Equal(a.To, b.To) {
		t.Errorf("R3: Span: %x, %v and %x, %v", a, e, b, f)
	}
	p := rows.Entry(hats(), named(t, 4), hatsRows()[0])
	q := api.Pair{Key: p.Key, Value: []byte{}}
	p.Value = nil
	m, is := rows.Owner(hats(), named(t, 4), p)
	n, has := rows.Owner(hats(), named(t, 4), q)
	if !is || !has || !bytes.Equal(m, n) {
		t.Errorf("R3: Owner: %x, %v and %x, %v", m, is, n, has)
	}
	if rows.Right(hats(), empty) || rows.Fits(hats(), empty) || len(rows.Key(hats(), empty)) != 0 || len(rows.Name(hats(), empty)) != 0 {
		t.Error("R3: an empty row is one")
	}
}
