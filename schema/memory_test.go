package schema_test

import (
	"slices"
	"strings"
	"testing"

	"armoire/api"
	"armoire/schema"
)

// Marks that stand in the room behind a list's end.
const (
	markNumber = 77
	markText   = "room"
)

// roomy is l with room behind its end, in which marks stand.
func roomy[T any](l []T, mark T) []T {
	return append(slices.Clone(l), mark, mark)[:len(l)]
}

func roomyTable(t api.Table) api.Table {
	t.Columns = roomy(t.Columns, api.Column{Name: markText})
	t.Key = roomy(t.Key, markNumber)
	return t
}

func roomyIndex(x api.Index) api.Index {
	x.Columns = roomy(x.Columns, markNumber)
	return x
}

func roomyCatalog(c api.Catalog) api.Catalog {
	c.Tables = roomy(c.Tables, api.Table{Name: markText})
	for i, t := range c.Tables {
		c.Tables[i] = roomyTable(t)
	}
	c.Indexes = roomy(c.Indexes, api.Index{Name: markText})
	for i, x := range c.Indexes {
		c.Indexes[i] = roomyIndex(x)
	}
	return c
}

// behind is what stands in the room behind a list's end, up to where marks were laid.
func behind[T any](l []T) []T { return l[len(l) : len(l)+2] }

// marked: do all marks of a table stand?
func marked(t api.Table) bool {
	for _, c := range behind(t.Columns) {
		if c.Name != markText {
			return false
		}
	}
	return !slices.ContainsFunc(behind(t.Key), func(n int) bool { return n != markNumber })
}

func markedIndex(x api.Index) bool {
	return !slices.ContainsFunc(behind(x.Columns), func(n int) bool { return n != markNumber })
}

func markedCatalog(c api.Catalog) bool {
	for _, t := range c.Tables {
		if !marked(t) {
			return false
		}
	}
	for _, x := range c.Indexes {
		if !markedIndex(x) {
			return false
		}
	}
	return behind(c.Tables)[0].Name == markText && behind(c.Tables)[1].Name == markText && behind(c.Indexes)[0].Name == markText && behind(c.Indexes)[1].Name == markText
}

// spoilTable writes into all that a table has, and the room behind it.
func spoilTable(t api.Table) {
	for i := range t.Columns[:cap(t.Columns)] {
		t.Columns[:cap(t.Columns)][i] = api.Column{Name: "spoilt", Kind: 9}
	}
	for i := range t.Key[:cap(t.Key)] {
		t.Key[:cap(t.Key)][i] = 99
	}
}

func spoilIndex(x api.Index) {
	for i := range x.Columns[:cap(x.Columns)] {
		x.Columns[:cap(x.Columns)][i] = 99
	}
}

func spoil(c api.Catalog) {
	for _, t := range c.Tables {
		spoilTable(t)
	}
	for _, x := range c.Indexes {
		spoilIndex(x)
	}
	tables, indexes := c.Tables[:cap(c.Tables)], c.Indexes[:cap(c.Indexes)]
	for i := range tables {
		tables[i] = api.Table{Name: "spoilt"}
	}
	for i := range indexes {
		indexes[i] = api.Index{Name: "spoilt"}
	}
}

// calls is each call that answers a catalog, with each of its answers.
func calls() map[string]func(c api.Catalog, t api.Table, x api.Index) api.Catalog {
	type call = func(c api.Catalog, t api.Table, x api.Index) api.Catalog
	addTable := func(name string) call {
		return func(c api.Catalog, t api.Table, x api.Index) api.Catalog {
			t.Name = name
			c, _ = schema.AddTable(c, t)
			return c
		}
	}
	addIndex := func(name, table string) call {
		return func(c api.Catalog, t api.Table, x api.Index) api.Catalog {
			x.Name = name
			c, _ = schema.AddIndex(c, x, table)
			return c
		}
	}
	drop := func(name string) call {
		return func(c api.Catalog, t api.Table, x api.Index) api.Catalog {
			c, _ = schema.Drop(c, name)
			return c
		}
	}
	step := func(id, from, to int, bad bool) call {
		return func(c api.Catalog, t api.Table, x api.Index) api.Catalog {
			c, _ = schema.Step(c, id, from, to, bad)
			return c
		}
	}
	return map[string]call{
		"AddTable":                  addTable("q"),
		"AddTable, ErrForm":         addTable("Q"),
		"AddTable, ErrTwice":        addTable("hats"),
		"AddIndex":                  addIndex("q", "hats"),
		"AddIndex, another table":   addIndex("q", "coats"),
		"AddIndex, ErrNone":         addIndex("q", "q"),
		"AddIndex, ErrForm":         addIndex("Q", "hats"),
		"AddIndex, ErrTwice":        addIndex("x", "hats"),
		"Drop":                      drop("hats"),
		"Drop, the last one":        drop("a_1"),
		"Drop, ErrNone":             drop("q"),
		"Drop, ErrState":            drop("x"),
		"Step":                      step(3, api.Backfill, api.Public, false),
		"Step, bad":                 step(3, api.Backfill, api.DropDelete, true),
		"Step, ErrNone":             step(1, api.Backfill, api.Public, false),
		"Step, ErrState":            step(3, api.WriteOnly, api.Backfill, false),
		"Step, gone, the first one": func(c api.Catalog, t api.Table, x api.Index) api.Catalog { return gone(c, 0) },
		"Step, gone, the last one":  func(c api.Catalog, t api.Table, x api.Index) api.Catalog { return gone(c, 3) },
	}
}

// gone is c without the index at a place, to which the state that leads there is only lent.
func gone(c api.Catalog, at int) api.Catalog {
	was := c.Indexes[at].State
	c.Indexes[at].State = api.Removing
	n, _ := schema.Step(c, c.Indexes[at].ID, api.Removing, api.Absent, false)
	c.Indexes[at].State = was
	return n
}

// R3: what is handed in is neither changed nor kept, with the room behind its ends; what is handed out is new.
func TestMemory(t *testing.T) {
	for what, call := range calls() {
		want := call(good(), plainTable(), plainIndex())

		c, table, index := roomyCatalog(good()), roomyTable(plainTable()), roomyIndex(plainIndex())
		got := call(c, table, index)
		if !same(got, want) {
			t.Errorf("R3: %s: it hangs on the room behind: %+v", what, got)
		}
		if !same(c, good()) || !same(catalogOf(table), catalogOf(plainTable())) || !same(indexesOf(index), indexesOf(plainIndex())) {
			t.Errorf("R3: %s: what was handed in is changed", what)
		}
		if !markedCatalog(c) || !marked(table) || !markedIndex(index) {
			t.Errorf("R3: %s: the room behind is changed", what)
		}

		spoil(got)
		if !same(c, good()) || !markedCatalog(c) || !marked(table) || !markedIndex(index) || !same(catalogOf(table), catalogOf(plainTable())) || !same(indexesOf(index), indexesOf(plainIndex())) {
			t.Errorf("R3: %s: what was handed out is what was handed in", what)
		}

		got = call(c, table, index)
		spoil(c)
		spoilTable(table)
		spoilIndex(index)
		if !same(got, want) {
			t.Errorf("R3: %s: what was handed in is kept: %+v", what, got)
		}
		if again := call(good(), plainTable(), plainIndex()); !same(again, want) {
			t.Errorf("R2: %s: another answer: %+v", what, again)
		}
	}
}

// R3: no two lists of one answer share any, nor the room behind their ends.
func TestListsShareNothing(t *testing.T) {
	for what, call := range calls() {
		want := call(good(), plainTable(), plainIndex())
		for i := range want.Tables {
			got := call(good(), plainTable(), plainIndex())
			spoilTable(got.Tables[i])
			got.Tables[i] = want.Tables[i]
			if !same(got, want) {
				t.Errorf("R3: %s: another thing has the lists of the table %d: %+v", what, i, got)
			}
		}
		for i := range want.Indexes {
			got := call(good(), plainTable(), plainIndex())
			spoilIndex(got.Indexes[i])
			got.Indexes[i] = want.Indexes[i]
			if !same(got, want) {
				t.Errorf("R3: %s: another thing has the list of the index %d: %+v", what, i, got)
			}
		}
	}
}

// R3: a list that a table and an index, or two tables, are handed in with is not shared behind either.
func TestOneListForTwo(t *testing.T) {
	list := []int{0}
	x, y := plainTable(), plainTable()
	x.Name, y.Name = "q1", "q2"
	x.Key, y.Key = list, list
	y.Columns = x.Columns
	c, _ := schema.AddTable(good(), x)
	c, _ = schema.AddTable(c, y)
	c, _ = schema.AddIndex(c, api.Index{Name: "q", Columns: list}, "q1")
	spoilTable(c.Tables[3])
	if !same(catalogOf(c.Tables[4]), catalogOf(api.Table{ID: 13, Name: "q2", Columns: columns(2), Key: []int{0}})) || c.Indexes[4].Columns[0] != 0 || list[0] != 0 {
		t.Errorf("R3: a list is shared: %+v", c)
	}
}

// R3: likewise of what Table, Index and Of tell, and of what Right is asked.
func TestMemoryOfParts(t *testing.T) {
	c := roomyCatalog(good())
	ask := func() (api.Table, api.Index, []api.Index) {
		table, _ := schema.Table(c, "hats")
		index, _ := schema.Index(c, "x")
		return table, index, schema.Of(c, 1)
	}
	table, index, list := ask()
	spoilTable(table)
	spoilIndex(index)
	spoil(indexesOf(list...))
	if !schema.Right(c) || !same(c, good()) || !markedCatalog(c) {
		t.Error("R3: what was handed out is what was handed in, or that is changed")
	}

	_, _, list = ask()
	for i := range list {
		spoilIndex(list[i])
		list[i] = api.Index{}
		for _, x := range list[i+1:] {
			if slices.Contains(x.Columns, 99) {
				t.Error("R3: two of a table's indexes share a list")
			}
		}
	}

	table, index, list = ask()
	spoil(c)
	want := good()
	if !same(catalogOf(table), catalogOf(want.Tables[0])) || !same(indexesOf(index), indexesOf(want.Indexes[2])) || !same(indexesOf(list...), indexesOf(want.Indexes[0], want.Indexes[2], want.Indexes[3])) {
		t.Errorf("R3: what was handed in is kept: %+v, %+v, %+v", table, index, list)
	}
}

// R3: nil and an empty list are the same.
func TestNilIsEmpty(t *testing.T) {
	a, b := api.Catalog{Next: 1}, api.Catalog{Next: 1, Tables: []api.Table{}, Indexes: []api.Index{}}
	for what, call := range calls() {
		if strings.Contains(what, "gone") { // there is none that could go
			continue
		}
		if x, y := call(a, plainTable(), plainIndex()), call(b, plainTable(), plainIndex()); !same(x, y) {
			t.Errorf("R3: %s: %+v and %+v", what, x, y)
		}
	}
}
