package rows_test

import (
	"bytes"
	"math"
	"math/rand/v2"
	"slices"
	"testing"

	"armoire/api"
	"armoire/rows"
	"armoire/schema"
	"armoire/tuple"
)

// anyValue is some value that a column may have; few, so that many are alike.
func anyValue(r *rand.Rand, c api.Column) api.Value {
	if c.Null && r.IntN(3) == 0 {
		return null
	}
	if c.Kind == api.Int {
		return num([]int64{-1, 0, 1, 255, 256, math.MinInt64, math.MaxInt64}[r.IntN(7)])
	}
	return text([]string{"", "a", "a\x00", "aa", "b", "\x00", "\xff", "\x01"}[r.IntN(8)])
}

// anyRow is some row of a table.
func anyRow(r *rand.Rand, t api.Table) []api.Value {
	var row []api.Value
	for _, c := range t.Columns {
		row = append(row, anyValue(r, c))
	}
	return row
}

// anyRows are so many, always the same ones.
func anyRows(t api.Table, count int) [][]api.Value {
	r := rand.New(rand.NewPCG(13, uint64(t.ID)))
	var l [][]api.Value
	for range count {
		l = append(l, anyRow(r, t))
	}
	return l
}

// anyTable is some right table, whose ID is id.
func anyTable(r *rand.Rand, id int) api.Table {
	t := api.Table{ID: id, Name: "t"}
	for i := range 1 + r.IntN(api.MaxColumns) {
		t.Columns = append(t.Columns, api.Column{Name: string(rune('a' + i)), Kind: 1 + r.IntN(2), Null: r.IntN(2) > 0})
	}
	t.Key = anyPlaces(r, t)
	for _, at := range t.Key {
		t.Columns[at].Null = false
	}
	return t
}

// anyPlaces are some unlike places of a table's columns.
func anyPlaces(r *rand.Rand, t api.Table) []int {
	return r.Perm(len(t.Columns))[:1+r.IntN(len(t.Columns))]
}

// anyPair is some right table, and an index of it.
func anyPair(t *testing.T, r *rand.Rand) (api.Table, api.Index) {
	t.Helper()
	u := anyTable(r, 1+r.IntN(300))
	x := api.Index{ID: 301 + r.IntN(300), Table: u.ID, Name: "x", Columns: anyPlaces(r, u), Unique: r.IntN(2) > 0, State: 1 + r.IntN(7)}
	if !schema.Right(api.Catalog{Next: 1000, Tables: []api.Table{u}, Indexes: []api.Index{x}}) {
		t.Fatalf("not right: %+v, %+v", u, x)
	}
	return u, x
}

// entryValues are the values that an entry of the row is of, and whether its Value has the row's name.
func entryValues(u api.Table, x api.Index, row []api.Value) ([]api.Value, bool) {
	var l []api.Value
	for _, at := range x.Columns {
		l = append(l, row[at])
	}
	return l, x.Unique && !slices.Contains(l, null)
}

// What follows: a row leads to its entry, and that back to its name; both are told by the words of the chapter.
func TestThereAndBack(t *testing.T) {
	r := rand.New(rand.NewPCG(1, 13))
	for range 3000 {
		u, x := anyPair(t, r)
		row := anyRow(r, u)
		p, key := rows.Pair(u, row), rows.Key(u, row)
		got, is := rows.Row(u, p)
		if !rows.Right(u, row) || !is || !slices.Equal(got, row) || !rows.Fits(u, key) || !bytes.Equal(p.Key, rows.Name(u, key)) {
			t.Fatalf("P13.1: %+v, %v: %x, %v, %v", u, row, p, got, is)
		}
		e := rows.Entry(u, x, row)
		name, is := rows.Owner(u, x, e)
		if !is || !bytes.Equal(name, p.Key) {
			t.Fatalf("P13.3: %+v, %+v, %v: %x, %x, %v", u, x, row, e, name, is)
		}
		values, alone := entryValues(u, x, row)
		if alone != (len(e.Value) > 0) || alone && !bytes.Equal(e.Value, p.Key) {
			t.Fatalf("P13.3: %+v, %v: the value %x", x, row, e.Value)
		}
		if !alone {
			values = append(values, key...)
		}
		s, _ := rows.Within(x, nil, nil)
		if l, _, code := tuple.Dec(e.Key[len(s.From):]); !bytes.HasPrefix(e.Key, s.From) || code != api.OK || !slices.Equal(l, values) {
			t.Fatalf("P13.3: %+v, %v: the key %x is of %v", x, row, e.Key, l)
		}
	}
}

// What follows: entries stand in the order of the values that they are of, and of those that are alike in that of the keys; names stand as their keys do.
func TestInOrder(t *testing.T) {
	r := rand.New(rand.NewPCG(2, 13))
	for range 3000 {
		u, x := anyPair(t, r)
		a, b := anyRow(r, u), anyRow(r, u)
		if r.IntN(2) == 0 { // so that more of their values are alike
			b = slices.Concat(a[:len(a)/2], b[len(a)/2:])
		}
		order := tuple.Cmp(rows.Key(u, a), rows.Key(u, b))
		if got := bytes.Compare(rows.Pair(u, a).Key, rows.Pair(u, b).Key); got != order {
			t.Fatalf("P13.1: %+v: the names of %v and %v: %d", u, a, b, got)
		}
		v, alone := entryValues(u, x, a)
		w, _ := entryValues(u, x, b)
		want := tuple.Cmp(v, w)
		if want == 0 && !alone { // two rows with one key of a unique index have one entry's key
			want = order
		}
		if got := bytes.Compare(rows.Entry(u, x, a).Key, rows.Entry(u, x, b).Key); got != want {
			t.Fatalf("P13.3: %+v: the entries of %v and %v: %d; want %d", x, a, b, got, want)
		}
	}
}

// everyRow is each row of a table that has these values of each kind.
func everyRow(t api.Table) [][]api.Value {
	out := [][]api.Value{nil}
	for _, c := range t.Columns {
		var next [][]api.Value
		for _, row := range out {
			for _, v := range smallValues() {
				if v.Kind == c.Kind || c.Null && v == null {
					next = append(next, append(slices.Clone(row), v))
				}
			}
		}
		out = next
	}
	return out
}

func smallValues() []api.Value { return list(null, num(0), num(1), text(""), text("a")) }

// smallList is some list of these values.
func smallList(r *rand.Rand, most int) []api.Value {
	var l []api.Value
	for range r.IntN(most + 1) {
		l = append(l, smallValues()[r.IntN(5)])
	}
	return l
}

// P13.1, P13.3: of all pairs that few values make, those that have a row are the rows' pairs, those that have an owner their entries; and each has just that one.
func TestNoOthers(t *testing.T) {
	r := rand.New(rand.NewPCG(3, 13))
	found := 0
	for range 60 {
		u, x := anyPair(t, r)
		u.Columns, x.Columns = u.Columns[:min(len(u.Columns), 3)], []int{0}
		u.Key = []int{len(u.Columns) - 1}
		u.Columns[u.Key[0]].Null = false
		if len(u.Columns) > 1 && r.IntN(2) == 0 {
			x.Columns = []int{1, 0}
		}
		pairs, entries := map[string]string{}, map[string]string{}
		for _, row := range everyRow(u) {
			p, e := rows.Pair(u, row), rows.Entry(u, x, row)
			b, _ := tuple.Enc(row)
			pairs[string(p.Key)+"|"+string(p.Value)] = string(b)
			entries[string(e.Key)+"|"+string(e.Value)] = string(p.Key)
		}
		names, _ := rows.Span(u, nil, nil)
		keys, _ := rows.Within(x, nil, nil)
		for range 3000 {
			a, _ := tuple.Enc(smallList(r, 4))
			b, _ := tuple.Enc(smallList(r, 3))
			p := api.Pair{Key: slices.Concat(names.From, a), Value: b}
			row, is := rows.Row(u, p)
			if got, _ := tuple.Enc(row); string(got) != pairs[string(p.Key)+"|"+string(p.Value)] || is != (len(row) > 0) {
				t.Fatalf("P13.1: %+v: the row of %x: %v, %v", u, p, row, is)
			}
			e := api.Pair{Key: slices.Concat(keys.From, a)}
			if r.IntN(2) == 0 {
				e.Value = slices.Concat(names.From, b)
			}
			name, has := rows.Owner(u, x, e)
			if string(name) != entries[string(e.Key)+"|"+string(e.Value)] || has != (len(name) > 0) {
				t.Fatalf("P13.3: %+v, %+v: the owner of %x: %x, %v", u, x, e, name, has)
			}
			if is || has {
				found++
			}
		}
	}
	if found < 1000 {
		t.Errorf("only %d of all pairs are a row's", found)
	}
}

// P13.1, P13.3: where a byte is another one, is missing, or is one more, what is answered is true: it leads back to just these bytes.
func TestTurnedBytes(t *testing.T) {
	r := rand.New(rand.NewPCG(4, 13))
	for range 3000 {
		u, x := anyPair(t, r)
		row := anyRow(r, u)
		p, e := turned(r, rows.Pair(u, row)), turned(r, rows.Entry(u, x, row))
		if got, is := rows.Row(u, p); is {
			if q := rows.Pair(u, got); !bytes.Equal(q.Key, p.Key) || !bytes.Equal(q.Value, p.Value) {
				t.Fatalf("P13.1: %+v: the row of %x: %v", u, p, got)
			}
		}
		if name, is := rows.Owner(u, x, e); is && !owns(u, x, name, e) {
			t.Fatalf("P13.3: %+v, %+v: the owner of %x: %x", u, x, e, name)
		}
	}
}

// owns: is that the name that the entry itself tells, by where it stands?
func owns(u api.Table, x api.Index, name []byte, e api.Pair) bool {
	if len(e.Value) > 0 {
		return x.Unique && bytes.Equal(name, e.Value)
	}
	s, _ := rows.Span(u, nil, nil)
	return bytes.HasPrefix(name, s.From) && bytes.HasSuffix(e.Key, name[len(s.From):])
}

// turned is a pair of which one byte is not as it was.
func turned(r *rand.Rand, p api.Pair) api.Pair {
	b := &p.Key
	if len(p.Value) > 0 && r.IntN(2) == 0 {
		b = &p.Value
	}
	at, c := r.IntN(len(*b)), byte(r.IntN(4)-1)
	switch r.IntN(4) {
	case 0:
		*b = slices.Delete(slices.Clone(*b), at, at+1)
	case 1:
		*b = slices.Insert(slices.Clone(*b), at, c)
	default:
		*b = slices.Clone(*b)
		(*b)[at] = c
	}
	return p
}
