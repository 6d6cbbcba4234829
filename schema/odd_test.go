package schema_test

import (
	"math"
	"slices"
	"strings"
	"testing"

	"armoire/api"
	"armoire/schema"
)

// odd are catalogs of which nothing is said but that no call panics.
func odd() []api.Catalog {
	table := api.Table{ID: math.MaxInt, Name: strings.Repeat("x", 1000), Columns: columns(50), Key: []int{-1, 50, math.MaxInt, math.MinInt}}
	index := api.Index{ID: math.MinInt, Table: math.MaxInt, Name: "\xff\x00", Columns: []int{math.MinInt, -1, 60}, State: math.MaxInt}
	list := []api.Catalog{
		{},
		{Version: math.MaxInt, Next: math.MaxInt},
		{Version: math.MinInt, Next: math.MinInt},
		{Next: math.MaxInt, Tables: []api.Table{{}, table, {}, table}},
		{Next: -1, Indexes: []api.Index{{}, index, index, {}}},
		{Next: 1 << 30, Tables: slices.Repeat([]api.Table{table}, 200), Indexes: slices.Repeat([]api.Index{index, {}}, 200)},
		{Next: 7, Tables: []api.Table{{ID: 1, Key: []int{0}}}, Indexes: []api.Index{{Table: 1, Columns: []int{0}}}},
	}
	for state := -1; state <= 8; state++ {
		c := good()
		c.Tables[0].Columns = nil
		c.Indexes[0].State = state
		c.Indexes[1].Table = 99
		c.Indexes[2].Columns = nil
		list = append(list, c)
	}
	return list
}

// R1: whatever catalog it is, whatever is asked, each call answers, and changes nothing that it was given.
func TestOddCatalogs(t *testing.T) {
	ask := []string{"", "x", "hats", "a_1", "\xff\x00", strings.Repeat("x", 1000)}
	numbers := []int{math.MinInt, -1, 0, 1, 2, 3, 4, 7, 1 << 30, math.MaxInt}
	for i, c := range append(odd(), most()) {
		was, _ := schema.Drop(c, "no such name")
		schema.Right(c)
		for _, name := range ask {
			schema.Table(c, name)
			schema.Index(c, name)
			schema.Drop(c, name)
			for _, x := range wrongTables() {
				schema.AddTable(c, x)
			}
			for _, x := range wrongIndexes() {
				schema.AddIndex(c, x, name)
			}
			schema.AddTable(c, plainTable())
			schema.AddIndex(c, plainIndex(), name)
		}
		for _, id := range numbers {
			schema.Of(c, id)
			for _, n := range numbers {
				schema.Step(c, id, n, n+1, true)
				schema.Step(c, id, n, api.DropDelete, true)
				schema.Step(c, id, n, schema.Next(api.Index{State: n}), false)
			}
		}
		if !same(c, was) {
			t.Errorf("R3: the odd catalog %d is changed", i)
		}
	}
}

// R1, R7: none of these is right.
func TestOddIsNotRight(t *testing.T) {
	for i, c := range odd() {
		if schema.Right(c) {
			t.Errorf("P12: the odd catalog %d is right", i)
		}
	}
}

// R1: great ones are refused in time.
func TestGreat(t *testing.T) {
	many := api.Catalog{Next: 1 << 30}
	for i := range 1 << 18 {
		many.Tables = append(many.Tables, api.Table{ID: i + 1, Columns: columns(1), Key: []int{0}})
	}
	if schema.Right(many) {
		t.Error("P12: far too many tables are right")
	}
	x := plainTable()
	x.Columns = slices.Repeat(columns(1), 1<<20)
	y := plainTable()
	y.Key = places(1 << 20)
	z := plainTable()
	z.Name = strings.Repeat("q", 1<<24)
	for _, x := range []api.Table{x, y, z} {
		if _, e := schema.AddTable(good(), x); e != api.ErrForm {
			t.Errorf("P12.1: a great table: %v", e)
		}
	}
	if _, e := schema.AddIndex(good(), api.Index{Name: "q", Columns: places(1 << 20)}, "hats"); e != api.ErrForm {
		t.Errorf("P12.1: a great index: %v", e)
	}
}

// R10: of things of one name, or one ID, of which nothing is said, the first one counts.
func TestTies(t *testing.T) {
	c := good()
	c.Tables[2].Name, c.Indexes[3].Name = "hats", "y"
	c.Indexes[3].ID = 3
	if x, ok := schema.Table(c, "hats"); !ok || x.ID != 1 {
		t.Errorf("R10: Table: %+v", x)
	}
	if x, ok := schema.Index(c, "y"); !ok || x.Table != 5 {
		t.Errorf("R10: Index: %+v", x)
	}
	if n, e := schema.Drop(c, "y"); e != api.OK || n.Indexes[1].State != api.DropDelete || n.Indexes[3].State != api.DeleteOnly {
		t.Errorf("R10: Drop: %+v, %v", n, e)
	}
	if n, e := schema.Step(c, 3, api.Backfill, api.Public, false); e != api.OK || n.Indexes[1].State != api.Public {
		t.Errorf("R10: Step: %+v, %v", n, e)
	}
}
