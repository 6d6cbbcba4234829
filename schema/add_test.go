package schema_test

import (
	"math"
	"strconv"
	"testing"

	"armoire/api"
	"armoire/schema"
)

// plainTable is one that may be, of a name that good has not.
func plainTable() api.Table {
	return api.Table{Name: "q", Columns: columns(2), Key: []int{1}}
}

// plainIndex is one that may be, of any table of good.
func plainIndex() api.Index {
	return api.Index{Name: "q", Columns: []int{0}}
}

// P12.1: a table that may be is there, behind the others, with the ID Next, whatever ID it was given.
func TestAddTable(t *testing.T) {
	for what, x := range tables() {
		for _, id := range []int{0, 1, -1, 2, 12, math.MaxInt} {
			x.ID = id
			got, e := schema.AddTable(good(), x)
			want := good()
			x.ID = 12
			want.Tables = append(want.Tables, x)
			want.Next, want.Version = 13, 10
			is(t, "P12.1: AddTable, "+what, got, e, want, api.OK)
		}
	}
}

// P12.1: the first one, and those behind it, up to the last one that has room.
func TestAddTables(t *testing.T) {
	c := api.Catalog{Next: 1}
	for i := range api.MaxTables {
		x := plainTable()
		x.Name += strconv.Itoa(i)
		n, e := schema.AddTable(c, x)
		x.ID = i + 1
		c.Tables = append(c.Tables, x)
		c.Next, c.Version = i+2, i+1
		is(t, "P12.1: AddTable", n, e, c, api.OK)
		c = n
	}
	n, e := schema.AddTable(c, plainTable())
	is(t, "P12.1: AddTable, one too many", n, e, c, api.ErrFull)
}

// P12.1, R5: what may not be is refused ahead of all else.
func TestAddTableForm(t *testing.T) {
	last := good()
	last.Next = 1 << 30
	for what, x := range wrongTables() {
		for _, c := range []api.Catalog{good(), most(), last, {Next: 1}} {
			got, e := schema.AddTable(c, x)
			is(t, "P12.1: AddTable, "+what, got, e, c, api.ErrForm)
		}
	}
	wrong := plainTable()
	wrong.Name, wrong.Key = "hats", nil
	got, e := schema.AddTable(good(), wrong)
	is(t, "P12.1: AddTable, a name that is there, of what may not be", got, e, good(), api.ErrForm)
}

// P12.1, R5: a name that a table has is refused ahead of no room.
func TestAddTableTwice(t *testing.T) {
	for _, name := range []string{"hats", "coats", "shoes"} {
		x := plainTable()
		x.Name = name
		last := good()
		last.Next = 1 << 30
		for _, c := range []api.Catalog{good(), last} {
			got, e := schema.AddTable(c, x)
			is(t, "P12.1: AddTable, "+name+" twice", got, e, c, api.ErrTwice)
		}
	}
	for _, x := range most().Tables {
		got, e := schema.AddTable(most(), x)
		is(t, "P12.1: AddTable, "+x.Name+" twice, no room", got, e, most(), api.ErrTwice)
	}
}

// P12.1: an index that may be is there, behind the others, with the ID Next, at its way's beginning, whatever it was given beside its name, its columns, and whether it is Unique.
func TestAddIndex(t *testing.T) {
	for what, x := range indexes() {
		for _, given := range []api.Index{{}, {ID: 12, Table: 1, State: api.DeleteOnly}, {ID: 2, Table: 5, State: api.Public, Bad: true}, {ID: -1, Table: 99, State: 9, Bad: true}, {ID: math.MaxInt, Table: math.MinInt, State: math.MinInt}} {
			given.Name, given.Columns, given.Unique = x.Name, x.Columns, x.Unique
			got, e := schema.AddIndex(good(), given, "hats")
			want := good()
			want.Indexes = append(want.Indexes, api.Index{ID: 12, Table: 1, Name: x.Name, Columns: x.Columns, Unique: x.Unique, State: api.DeleteOnly})
			want.Next, want.Version = 13, 10
			is(t, "P12.1: AddIndex, "+what, got, e, want, api.OK)
		}
	}
}

// P12.1: of each table, up to the last one that has room.
func TestAddIndexes(t *testing.T) {
	c := good()
	for i := len(c.Indexes); i < api.MaxIndexes; i++ {
		x := plainIndex()
		x.Name += strconv.Itoa(i)
		table := c.Tables[i%3]
		n, e := schema.AddIndex(c, x, table.Name)
		x.ID, x.Table, x.State = c.Next, table.ID, api.DeleteOnly
		c.Indexes = append(c.Indexes, x)
		c.Next++
		c.Version++
		is(t, "P12.1: AddIndex", n, e, c, api.OK)
		c = n
	}
	n, e := schema.AddIndex(c, plainIndex(), "hats")
	is(t, "P12.1: AddIndex, one too many", n, e, c, api.ErrFull)
}

// P12.1, R5: a table that is not there is refused ahead of all else.
func TestAddIndexNone(t *testing.T) {
	twice := plainIndex()
	twice.Name = "x"
	for _, table := range []string{"", "x", "y", "hat", "HATS", "q"} {
		for _, x := range []api.Index{plainIndex(), twice, {}, {Name: "Q"}} {
			for _, c := range []api.Catalog{good(), most(), {Next: 1}, {Next: 1 << 30}} {
				got, e := schema.AddIndex(c, x, table)
				is(t, "P12.1: AddIndex, the table "+table, got, e, c, api.ErrNone)
			}
		}
	}
}

// P12.1, R5: what may not be is refused ahead of a name that is there, and of no room; its table's columns count.
func TestAddIndexForm(t *testing.T) {
	last := good()
	last.Next = 1 << 30
	for what, x := range wrongIndexes() {
		for _, c := range []api.Catalog{good(), last} {
			got, e := schema.AddIndex(c, x, "hats")
			is(t, "P12.1: AddIndex, "+what, got, e, c, api.ErrForm)
		}
	}
	for _, name := range []string{"q", "x"} {
		x := api.Index{Name: name, Columns: []int{1}}
		got, e := schema.AddIndex(good(), x, "shoes")
		is(t, "P12.1: AddIndex, a column of another table", got, e, good(), api.ErrForm)
	}
	got, e := schema.AddIndex(most(), api.Index{Name: "x0"}, "t0")
	is(t, "P12.1: AddIndex, no columns, no room", got, e, most(), api.ErrForm)
}

// P12.1, R5: a name that an index has, of whatever table, in whatever state, is refused ahead of no room.
func TestAddIndexTwice(t *testing.T) {
	for _, name := range []string{"hats", "y", "x", "a_1"} {
		x := plainIndex()
		x.Name = name
		last := good()
		last.Next = 1 << 30
		for _, c := range []api.Catalog{good(), last} {
			for _, table := range c.Tables {
				got, e := schema.AddIndex(c, x, table.Name)
				is(t, "P12.1: AddIndex, "+name+" twice", got, e, c, api.ErrTwice)
			}
		}
	}
	for _, x := range most().Indexes {
		got, e := schema.AddIndex(most(), x, "t5")
		is(t, "P12.1: AddIndex, "+x.Name+" twice, no room", got, e, most(), api.ErrTwice)
	}
}

// P12.1: the last ID is 2^30 - 1; where it is given, there is none left, for neither.
func TestLastID(t *testing.T) {
	c := good()
	c.Next = 1<<30 - 1
	table, e := schema.AddTable(c, plainTable())
	if e != api.OK || table.Next != 1<<30 || table.Tables[3].ID != 1<<30-1 || !schema.Right(table) {
		t.Errorf("P12.1: AddTable, the last ID: %+v, %v", table, e)
	}
	index, e := schema.AddIndex(c, plainIndex(), "hats")
	if e != api.OK || index.Next != 1<<30 || index.Indexes[4].ID != 1<<30-1 || !schema.Right(index) {
		t.Errorf("P12.1: AddIndex, the last ID: %+v, %v", index, e)
	}
	for _, c := range []api.Catalog{table, index} {
		x, y := plainTable(), plainIndex()
		x.Name, y.Name = "q1", "q1"
		got, e := schema.AddTable(c, x)
		is(t, "P12.1: AddTable, no ID left", got, e, c, api.ErrFull)
		got, e = schema.AddIndex(c, y, "hats")
		is(t, "P12.1: AddIndex, no ID left", got, e, c, api.ErrFull)
	}
}

// R7: the greatest Version has no next one: nothing can be changed any more.
func TestLastVersion(t *testing.T) {
	c := good()
	c.Version = math.MaxInt - 1
	last, e := schema.AddTable(c, plainTable())
	if e != api.OK || last.Version != math.MaxInt {
		t.Fatalf("P12.1: the last version: %d, %v", last.Version, e)
	}
	x := plainTable()
	x.Name = "q1"
	got, e := schema.AddTable(last, x)
	is(t, "R7: AddTable", got, e, last, api.ErrFull)
	got, e = schema.AddIndex(last, plainIndex(), "hats")
	is(t, "R7: AddIndex", got, e, last, api.ErrFull)
	got, e = schema.Drop(last, "y")
	is(t, "R7: Drop", got, e, last, api.ErrFull)
	got, e = schema.Step(last, 3, api.Backfill, api.Public, false)
	is(t, "R7: Step", got, e, last, api.ErrFull)
	last.Indexes[2].State = api.Removing
	got, e = schema.Step(last, 7, api.Removing, api.Absent, false)
	is(t, "R7: Step to Absent", got, e, last, api.ErrFull)

	got, e = schema.AddTable(last, plainTable())
	is(t, "R5: AddTable twice, at the last version", got, e, last, api.ErrTwice)
	got, e = schema.Drop(last, "x")
	is(t, "R5: Drop of what goes, at the last version", got, e, last, api.ErrState)
	got, e = schema.Step(last, 3, api.Public, api.Public, false)
	is(t, "R5: Step out of another state, at the last version", got, e, last, api.ErrState)
}
