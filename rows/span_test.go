package rows_test

import (
	"bytes"
	"slices"
	"testing"

	"armoire/api"
	"armoire/rows"
	"armoire/tuple"
)

// in: is the key in the span?
func in(s api.Span, key []byte) bool {
	return bytes.Compare(key, s.From) >= 0 && (len(s.To) == 0 || bytes.Compare(key, s.To) < 0)
}

// P13.2: the bytes of spans, of both calls, which differ by their heads alone.
func TestSpanBytes(t *testing.T) {
	for _, x := range []struct {
		id       int
		from, to []api.Value
		low      string // behind the head's mark
		high     string
	}{
		{3, nil, nil, "\x02\x80\x00\x00\x00\x00\x00\x00\x03", "\x02\x80\x00\x00\x00\x00\x00\x00\x04"},
		{3, list(), list(), "\x02\x80\x00\x00\x00\x00\x00\x00\x03", "\x02\x80\x00\x00\x00\x00\x00\x00\x04"},
		{255, nil, nil, "\x02\x80\x00\x00\x00\x00\x00\x00\xff", "\x02\x80\x00\x00\x00\x00\x00\x01"},
		{1<<16 - 1, list(null), nil, "\x02\x80\x00\x00\x00\x00\x00\xff\xff\x01", "\x02\x80\x00\x00\x00\x00\x01"},
		{1<<30 - 1, nil, list(null), "\x02\x80\x00\x00\x00\x3f\xff\xff\xff", "\x02\x80\x00\x00\x00\x3f\xff\xff\xff\x01"},
		{3, list(text("a")), list(text("b"), num(1)), "\x02\x80\x00\x00\x00\x00\x00\x00\x03\x03a\x00\x01", "\x02\x80\x00\x00\x00\x00\x00\x00\x03\x03b\x00\x01\x02\x80\x00\x00\x00\x00\x00\x00\x01"},
		{3, list(text("b")), list(text("a")), "\x02\x80\x00\x00\x00\x00\x00\x00\x03\x03b\x00\x01", "\x02\x80\x00\x00\x00\x00\x00\x00\x03\x03a\x00\x01"},
		{3, list(num(1), null), list(num(1), null), "\x02\x80\x00\x00\x00\x00\x00\x00\x03\x02\x80\x00\x00\x00\x00\x00\x00\x01\x01", "\x02\x80\x00\x00\x00\x00\x00\x00\x03\x02\x80\x00\x00\x00\x00\x00\x00\x01\x01"},
	} {
		u := hats()
		u.ID = x.id
		s, e := rows.Span(u, x.from, x.to)
		if e != api.OK || string(s.From) != "r"+x.low || string(s.To) != "r"+x.high {
			t.Errorf("P13.2: Span of %d from %v to %v: %x, %x, %v", x.id, x.from, x.to, s.From, s.To, e)
		}
		s, e = rows.Within(api.Index{ID: x.id, Table: 2, Columns: []int{0}}, x.from, x.to)
		if e != api.OK || string(s.From) != "x"+x.low || string(s.To) != "x"+x.high {
			t.Errorf("P13.2: Within %d from %v to %v: %x, %x, %v", x.id, x.from, x.to, s.From, s.To, e)
		}
	}
}

// P13.2: what Enc refuses, on either side; values of kinds that no key has are not refused.
func TestSpanRefused(t *testing.T) {
	for what, l := range map[string][]api.Value{
		"17 values":          make([]api.Value, 17),
		"1000 values":        make([]api.Value, 1000),
		"another kind":       {num(1), {Kind: 3}},
		"a long text":        {text("123456789012345678901")},
		"a Null with a text": {{S: "x"}},
		"17 and another one": append(make([]api.Value, 17), api.Value{Kind: 3}),
	} {
		for _, x := range [][2][]api.Value{{l, nil}, {nil, l}, {l, l}, {list(num(1)), l}, {l, list(num(1))}} {
			if s, e := rows.Span(hats(), x[0], x[1]); e != api.ErrForm || len(s.From)+len(s.To) != 0 {
				t.Errorf("P13.2: Span of %s: %x, %v", what, s, e)
			}
			if s, e := rows.Within(named(t, 4), x[0], x[1]); e != api.ErrForm || len(s.From)+len(s.To) != 0 {
				t.Errorf("P13.2: Within, of %s: %x, %v", what, s, e)
			}
		}
	}
	for _, l := range [][]api.Value{make([]api.Value, 16), list(null), list(num(1), text("x"), num(2), null, null)} {
		b, _ := tuple.Enc(l)
		if s, e := rows.Span(hats(), l, l); e != api.OK || !bytes.HasSuffix(s.From, b) || !bytes.Equal(s.From, s.To) {
			t.Errorf("P13.2: Span of %v: %x, %v", l, s, e)
		}
		if s, e := rows.Within(named(t, 4), l, l); e != api.OK || !bytes.HasSuffix(s.From, b) || !bytes.Equal(s.From, s.To) {
			t.Errorf("P13.2: Within, of %v: %x, %v", l, s, e)
		}
	}
}

// P13.2: all names of a table are in its span without bounds, all entries in that of their index; no others.
func TestWholeSpans(t *testing.T) {
	c := catalog()
	type key struct {
		id int
		b  []byte
	}
	var all []key
	for _, u := range c.Tables {
		for _, row := range anyRows(u, 30) {
			all = append(all, key{u.ID, rows.Pair(u, row).Key})
			for _, x := range c.Indexes {
				if x.Table == u.ID {
					all = append(all, key{x.ID, rows.Entry(u, x, row).Key})
				}
			}
		}
	}
	spans := map[int]api.Span{}
	for _, u := range c.Tables {
		spans[u.ID], _ = rows.Span(u, nil, nil)
	}
	for _, x := range c.Indexes {
		spans[x.ID], _ = rows.Within(x, nil, nil)
	}
	for id, s := range spans {
		if len(s.From) == 0 || len(s.To) == 0 {
			t.Errorf("P13.2: the span of %d has an empty side: %x", id, s)
		}
		for _, k := range all {
			if in(s, k.b) != (id == k.id) {
				t.Errorf("P13.2: the key %x of %d in the span of %d: %v", k.b, k.id, id, in(s, k.b))
			}
		}
	}
}

// P13.2: of all names those that are in a span are those whose keys stand from from on, and ahead of to, a beginning ahead of what it begins.
func TestSpanHas(t *testing.T) {
	u := hats()
	var bounds [][]api.Value
	for _, row := range anyRows(u, 40) {
		key := rows.Key(u, row)
		bounds = append(bounds, nil, key[:1], key, append(slices.Clone(key), null), list(key[0], null), list(key[1]))
	}
	for i, row := range anyRows(u, 200) {
		key := rows.Key(u, row)
		from, to := bounds[i%len(bounds)], bounds[(i*7+3)%len(bounds)]
		s, e := rows.Span(u, from, to)
		want := tuple.Cmp(key, from) >= 0 && (len(to) == 0 || tuple.Cmp(key, to) < 0)
		if e != api.OK || in(s, rows.Name(u, key)) != want {
			t.Errorf("P13.2: %v is in the span from %v to %v: %v; %v", key, from, to, !want, e)
		}
	}
}

// P13.2: likewise of an index's keys: the values that they are of, and behind them the row's key, if it is there.
func TestWithinHas(t *testing.T) {
	u, x, y := hats(), named(t, 4), named(t, 5)
	var bounds [][]api.Value
	for _, row := range anyRows(u, 40) {
		bounds = append(bounds, nil, list(row[2]), list(row[2], row[0]), list(row[2], row[0], row[1]), list(row[2], row[0], row[1], row[0]), list(row[0]))
	}
	for i, row := range anyRows(u, 200) {
		from, to := bounds[i%len(bounds)], bounds[(i*7+3)%len(bounds)]
		whole := list(row[2], row[0], row[1], row[0])
		for _, z := range []api.Index{x, y} {
			of := whole
			if z.Unique && row[2] != null {
				of = whole[:2]
			}
			s, e := rows.Within(z, from, to)
			want := tuple.Cmp(of, from) >= 0 && (len(to) == 0 || tuple.Cmp(of, to) < 0)
			if e != api.OK || in(s, rows.Entry(u, z, row).Key) != want {
				t.Errorf("P13.2: %v is within %v to %v: %v; %v", of, from, to, !want, e)
			}
		}
	}
}
