package schema_test

import (
	"bytes"
	"testing"

	"armoire/api"
	"armoire/schema"
	"armoire/wire"
)

// good is a right catalog: IDs with gaps, an index whose ID is below its table's, names that a table and an index, or columns of two tables, have both.
func good() api.Catalog {
	return api.Catalog{
		Version: 9,
		Next:    12,
		Tables: []api.Table{
			{ID: 1, Name: "hats", Columns: []api.Column{{Name: "a", Kind: api.Int}, {Name: "b", Kind: api.Text, Null: true}, {Name: "c", Kind: api.Text}}, Key: []int{2, 0}},
			{ID: 5, Name: "coats", Columns: []api.Column{{Name: "a", Kind: api.Text}, {Name: "z", Kind: api.Int, Null: true}}, Key: []int{0}},
			{ID: 6, Name: "shoes", Columns: []api.Column{{Name: "n", Kind: api.Int}}, Key: []int{0}},
		},
		Indexes: []api.Index{
			{ID: 2, Table: 1, Name: "hats", Columns: []int{1}, State: api.Public},
			{ID: 3, Table: 5, Name: "y", Columns: []int{1, 0}, Unique: true, State: api.Backfill},
			{ID: 7, Table: 1, Name: "x", Columns: []int{0, 1, 2}, Unique: true, State: api.DropDelete, Bad: true},
			{ID: 11, Table: 1, Name: "a_1", Columns: []int{2}, State: api.DeleteOnly},
		},
	}
}

// same: all fields, and the elements of lists one by one.
func same(a, b api.Catalog) bool {
	return bytes.Equal(wire.Catalog(a), wire.Catalog(b))
}

// catalogOf has that table alone; with it, tables are held against each other by same.
func catalogOf(t api.Table) api.Catalog { return api.Catalog{Tables: []api.Table{t}} }

// indexesOf has these indexes alone.
func indexesOf(l ...api.Index) api.Catalog { return api.Catalog{Indexes: l} }

// is: the call answered that catalog, and that error.
func is(t *testing.T, what string, got api.Catalog, e api.Errno, want api.Catalog, code api.Errno) {
	t.Helper()
	if e != code {
		t.Errorf("%s: error %v; want %v", what, e, code)
	}
	if !same(got, want) {
		t.Errorf("%s: %+v; want %+v", what, got, want)
	}
}

// P12.1: what there is, by its name.
func TestByName(t *testing.T) {
	c := good()
	for _, want := range c.Tables {
		if got, ok := schema.Table(c, want.Name); !ok || !same(catalogOf(got), catalogOf(want)) {
			t.Errorf("P12.1: Table(%q): %+v, %v", want.Name, got, ok)
		}
	}
	for _, want := range c.Indexes {
		if got, ok := schema.Index(c, want.Name); !ok || !same(indexesOf(got), indexesOf(want)) {
			t.Errorf("P12.1: Index(%q): %+v, %v", want.Name, got, ok)
		}
	}
}

// P12.1, R4: what there is not.
func TestNoName(t *testing.T) {
	for _, c := range []api.Catalog{good(), {}, {Next: 1}} {
		for _, name := range []string{"", "x", "y", "a_1", "hat", "hatss", "HATS", "a", "hats ", "\x00"} {
			if got, ok := schema.Table(c, name); ok || !same(catalogOf(got), catalogOf(api.Table{})) {
				t.Errorf("P12.1: Table(%q): %+v, %v", name, got, ok)
			}
		}
		for _, name := range []string{"", "coats", "shoes", "z", "a_", "a_11", "X", "\x00"} {
			if got, ok := schema.Index(c, name); ok || !same(indexesOf(got), indexesOf(api.Index{})) {
				t.Errorf("P12.1: Index(%q): %+v, %v", name, got, ok)
			}
		}
	}
}

// P12.1: the indexes of a table, whatever their states are.
func TestOf(t *testing.T) {
	c := good()
	x := c.Indexes
	for table, want := range map[int][]api.Index{1: {x[0], x[2], x[3]}, 5: {x[1]}, 6: nil, 2: nil, 0: nil, -1: nil, 12: nil} {
		if got := schema.Of(c, table); !same(indexesOf(got...), indexesOf(want...)) {
			t.Errorf("P12.1: Of(%d): %+v; want %+v", table, got, want)
		}
	}
	for state := api.DeleteOnly; state <= api.Removing; state++ {
		c.Indexes[1].State = state
		if got := schema.Of(c, 5); len(got) != 1 || got[0].State != state {
			t.Errorf("P12.1: Of, in the state %d: %+v", state, got)
		}
	}
	if got := schema.Of(api.Catalog{Next: 1}, 1); len(got) != 0 {
		t.Errorf("P12.1: Of nothing: %+v", got)
	}
}
