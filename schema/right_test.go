package schema_test

import (
	"math"
	"strconv"
	"strings"
	"testing"

	"armoire/api"
	"armoire/schema"
)

// names that may be.
var names = []string{"q", "_", "0", "9", "_q_", "azaz09_", "0_0", strings.Repeat("q", api.MaxText), strings.Repeat("_", api.MaxText)}

// wrongNames that may not be: the bytes beside those that may are among them.
var wrongNames = []string{
	"", strings.Repeat("q", api.MaxText+1), strings.Repeat("é", api.MaxText), strings.Repeat("q", 1000),
	"A", "Z", "qA", "Zq", "/", ":", "q/", "q:", "^", "`", "q`q", "{", "q{", "q q", " q", "q ", "q-q", "q.q", "q\x00", "\x00", "q\n", "\x7f", "q\xff", "\xff", "é", "qé", "ａ",
}

// columns are so many of them.
func columns(n int) []api.Column {
	var l []api.Column
	for i := range n {
		l = append(l, api.Column{Name: "c" + strconv.Itoa(i), Kind: api.Int})
	}
	return l
}

// places are so many of them, from 0 on.
func places(n int) []int {
	var l []int
	for i := range n {
		l = append(l, i)
	}
	return l
}

// tables that may be, beside those of good.
func tables() map[string]api.Table {
	l := map[string]api.Table{
		"an index's name":          {Name: "x", Columns: columns(1), Key: []int{0}},
		"most columns":             {Name: "q", Columns: columns(api.MaxColumns), Key: []int{0}},
		"all of them keys":         {Name: "q", Columns: columns(api.MaxColumns), Key: places(api.MaxColumns)},
		"the last one is the key":  {Name: "q", Columns: columns(api.MaxColumns), Key: []int{api.MaxColumns - 1}},
		"a key the other way":      {Name: "q", Columns: columns(3), Key: []int{2, 1, 0}},
		"texts":                    {Name: "q", Columns: []api.Column{{Name: "a", Kind: api.Text}, {Name: "b", Kind: api.Text, Null: true}}, Key: []int{0}},
		"Null, but not in the key": {Name: "q", Columns: []api.Column{{Name: "a", Kind: api.Int, Null: true}, {Name: "b", Kind: api.Int}, {Name: "c", Kind: api.Text, Null: true}}, Key: []int{1}},
		"a column of its name":     {Name: "q", Columns: []api.Column{{Name: "q", Kind: api.Int}}, Key: []int{0}},
	}
	for _, name := range names {
		l["the name "+name] = api.Table{Name: name, Columns: columns(1), Key: []int{0}}
		l["the column "+name] = api.Table{Name: "q", Columns: append(columns(2), api.Column{Name: name, Kind: api.Text}), Key: []int{2, 0}}
	}
	return l
}

// wrongTables may not be, each for one reason.
func wrongTables() map[string]api.Table {
	l := map[string]api.Table{
		"nothing":                   {},
		"no columns":                {Name: "q"},
		"no columns, but a key":     {Name: "q", Key: []int{0}},
		"too many columns":          {Name: "q", Columns: columns(api.MaxColumns + 1), Key: []int{0}},
		"far too many columns":      {Name: "q", Columns: columns(1000), Key: []int{0}},
		"two columns of one name":   {Name: "q", Columns: append(columns(2), columns(1)...), Key: []int{0}},
		"two at the end":            {Name: "q", Columns: append(columns(3), columns(3)[2]), Key: []int{0}},
		"two that are side by side": {Name: "q", Columns: append(columns(1), columns(2)...), Key: []int{0}},
		"no key":                    {Name: "q", Columns: columns(2)},
		"an empty key":              {Name: "q", Columns: columns(2), Key: []int{}},
		"a place twice":             {Name: "q", Columns: columns(2), Key: []int{0, 0}},
		"a place twice, apart":      {Name: "q", Columns: columns(3), Key: []int{1, 0, 1}},
		"a place past the end":      {Name: "q", Columns: columns(2), Key: []int{2}},
		"the second past the end":   {Name: "q", Columns: columns(2), Key: []int{0, 2}},
		"a place far past the end":  {Name: "q", Columns: columns(2), Key: []int{math.MaxInt}},
		"a place below 0":           {Name: "q", Columns: columns(2), Key: []int{-1}},
		"the second below 0":        {Name: "q", Columns: columns(2), Key: []int{1, -1}},
		"a place far below 0":       {Name: "q", Columns: columns(2), Key: []int{math.MinInt}},
		"too many places":           {Name: "q", Columns: columns(api.MaxColumns), Key: append(places(api.MaxColumns), 0)},
		"far too many places":       {Name: "q", Columns: columns(api.MaxColumns), Key: places(1000)},
		"a key that may be Null":    {Name: "q", Columns: []api.Column{{Name: "a", Kind: api.Int, Null: true}}, Key: []int{0}},
		"the last may be Null":      {Name: "q", Columns: append(columns(2), api.Column{Name: "a", Kind: api.Int, Null: true}), Key: []int{1, 0, 2}},
		"the first may be Null":     {Name: "q", Columns: append(columns(2), api.Column{Name: "a", Kind: api.Int, Null: true}), Key: []int{2, 1}},
	}
	for _, kind := range []int{api.Null, 3, -1, math.MaxInt, math.MinInt, 256 + api.Int} {
		l["the kind "+strconv.Itoa(kind)] = api.Table{Name: "q", Columns: []api.Column{{Name: "a", Kind: kind}}, Key: []int{0}}
		l["the second's kind "+strconv.Itoa(kind)] = api.Table{Name: "q", Columns: append(columns(1), api.Column{Name: "a", Kind: kind}), Key: []int{0}}
	}
	for _, name := range wrongNames {
		l["the name "+name] = api.Table{Name: name, Columns: columns(1), Key: []int{0}}
		l["the column "+name] = api.Table{Name: "q", Columns: append(columns(2), api.Column{Name: name, Kind: api.Int}), Key: []int{0}}
		l["the first column "+name] = api.Table{Name: "q", Columns: append([]api.Column{{Name: name, Kind: api.Int}}, columns(2)...), Key: []int{1}}
	}
	return l
}

// indexes of the table hats of good, with its three columns, that may be.
func indexes() map[string]api.Index {
	l := map[string]api.Index{
		"a table's name":           {Name: "coats", Columns: []int{0}},
		"its key":                  {Name: "q", Columns: []int{2, 0}},
		"what may be Null":         {Name: "q", Columns: []int{1}},
		"all columns":              {Name: "q", Columns: []int{0, 1, 2}},
		"all, the other way":       {Name: "q", Columns: []int{2, 1, 0}, Unique: true},
		"columns as another one's": {Name: "q", Columns: []int{1}, Unique: true},
	}
	for _, name := range names {
		l["the name "+name] = api.Index{Name: name, Columns: []int{2}}
	}
	return l
}

// wrongIndexes of that table may not be, each for one reason.
func wrongIndexes() map[string]api.Index {
	l := map[string]api.Index{
		"nothing":                  {},
		"no columns":               {Name: "q"},
		"an empty list":            {Name: "q", Columns: []int{}},
		"a place twice":            {Name: "q", Columns: []int{1, 1}},
		"a place twice, apart":     {Name: "q", Columns: []int{1, 0, 1}},
		"a place past the end":     {Name: "q", Columns: []int{3}},
		"the last past the end":    {Name: "q", Columns: []int{0, 1, 3}},
		"a place far past the end": {Name: "q", Columns: []int{math.MaxInt}},
		"a place below 0":          {Name: "q", Columns: []int{-1}},
		"the last below 0":         {Name: "q", Columns: []int{0, -1}},
		"a place far below 0":      {Name: "q", Columns: []int{math.MinInt}},
		"more than there are":      {Name: "q", Columns: []int{0, 1, 2, 3}},
		"far too many":             {Name: "q", Columns: places(1000)},
	}
	for _, name := range wrongNames {
		l["the name "+name] = api.Index{Name: name, Columns: []int{0}}
	}
	return l
}

// Words: a catalog that is right, up to the bounds.
func TestRight(t *testing.T) {
	for what, turn := range map[string]func(c *api.Catalog){
		"as it is":              func(c *api.Catalog) {},
		"the first one":         func(c *api.Catalog) { *c = api.Catalog{Next: 1} },
		"empty lists":           func(c *api.Catalog) { *c = api.Catalog{Next: 1, Tables: []api.Table{}, Indexes: []api.Index{}} },
		"no indexes":            func(c *api.Catalog) { c.Indexes = nil },
		"version 0":             func(c *api.Catalog) { c.Version = 0 },
		"the greatest version":  func(c *api.Catalog) { c.Version = math.MaxInt },
		"the farthest Next":     func(c *api.Catalog) { c.Next = 1 << 30 },
		"the greatest ID":       func(c *api.Catalog) { c.Next, c.Indexes[3].ID = 1<<30, 1<<30-1 },
		"a table's greatest ID": func(c *api.Catalog) { c.Tables[2].ID = 10; c.Indexes = c.Indexes[:3]; c.Next = 11 },
		"an index's least ID":   func(c *api.Catalog) { c.Tables[0].ID = 4; c.Indexes[0].ID = 1; turnTables(c, 1, 4) },
		"no gaps": func(c *api.Catalog) {
			c.Next = 4
			c.Tables = c.Tables[:1]
			c.Indexes = c.Indexes[:1]
			c.Indexes[0].ID = 3
		},
		"not Unique":                func(c *api.Catalog) { c.Indexes[1].Unique = false },
		"Bad in any state":          func(c *api.Catalog) { c.Indexes[0].Bad = true },
		"most tables":               func(c *api.Catalog) { *c = most() },
		"most tables, the last one": func(c *api.Catalog) { *c = most(); c.Indexes[api.MaxIndexes-1].Table = c.Tables[api.MaxTables-1].ID },
	} {
		c := good()
		turn(&c)
		if !schema.Right(c) {
			t.Errorf("P12: %s: not right: %+v", what, c)
		}
	}
	for state := api.DeleteOnly; state <= api.Removing; state++ {
		c := good()
		c.Indexes[1].State = state
		if !schema.Right(c) {
			t.Errorf("P12: the state %d: not right", state)
		}
	}
}

// turnTables has the indexes of one table be another one's.
func turnTables(c *api.Catalog, from, to int) {
	for i := range c.Indexes {
		if c.Indexes[i].Table == from {
			c.Indexes[i].Table = to
		}
	}
}

// most is a right catalog in which there is no room.
func most() api.Catalog {
	c := api.Catalog{Next: 1}
	for i := range api.MaxTables {
		c.Tables = append(c.Tables, api.Table{ID: c.Next, Name: "t" + strconv.Itoa(i), Columns: columns(api.MaxColumns), Key: places(api.MaxColumns)})
		c.Next++
	}
	for i := range api.MaxIndexes {
		c.Indexes = append(c.Indexes, api.Index{ID: c.Next, Table: 1 + i%3, Name: "x" + strconv.Itoa(i), Columns: places(api.MaxColumns), State: api.Public})
		c.Next++
	}
	return c
}

// Words: what is not right, each for one reason.
func TestNotRight(t *testing.T) {
	for what, turn := range map[string]func(c *api.Catalog){
		"nothing":                     func(c *api.Catalog) { *c = api.Catalog{} },
		"a version below 0":           func(c *api.Catalog) { c.Version = -1 },
		"a version far below 0":       func(c *api.Catalog) { c.Version = math.MinInt },
		"Next 0":                      func(c *api.Catalog) { *c = api.Catalog{Next: 0, Version: 1} },
		"Next below 0":                func(c *api.Catalog) { *c = api.Catalog{Next: -1} },
		"Next too far":                func(c *api.Catalog) { c.Next = 1<<30 + 1 },
		"Next farthest of all":        func(c *api.Catalog) { c.Next = math.MaxInt },
		"an index from Next on":       func(c *api.Catalog) { c.Next = 11 },
		"an index above Next":         func(c *api.Catalog) { c.Indexes[3].ID = 13 },
		"a table from Next on":        func(c *api.Catalog) { c.Indexes = nil; c.Next = 6 },
		"a table with ID 0":           func(c *api.Catalog) { c.Tables[0].ID = 0; turnTables(c, 1, 0) },
		"a table with ID -1":          func(c *api.Catalog) { c.Tables[0].ID = -1; turnTables(c, 1, -1) },
		"an index with ID 0":          func(c *api.Catalog) { c.Indexes[0].ID = 0 },
		"an index with ID -1":         func(c *api.Catalog) { c.Indexes[0].ID = -1 },
		"tables that fall":            func(c *api.Catalog) { c.Tables[1], c.Tables[2] = c.Tables[2], c.Tables[1] },
		"indexes that fall":           func(c *api.Catalog) { c.Indexes[0], c.Indexes[1] = c.Indexes[1], c.Indexes[0] },
		"two tables with one ID":      func(c *api.Catalog) { c.Tables[2].ID = 5 },
		"two indexes with one ID":     func(c *api.Catalog) { c.Indexes[2].ID = 3 },
		"an index with a table's ID":  func(c *api.Catalog) { c.Indexes[2].ID = 5 },
		"a table with an index's ID":  func(c *api.Catalog) { c.Tables[2].ID = 11 },
		"two tables of one name":      func(c *api.Catalog) { c.Tables[2].Name = "hats" },
		"two indexes of one name":     func(c *api.Catalog) { c.Indexes[3].Name = "y" },
		"an index without a table":    func(c *api.Catalog) { c.Indexes[1].Table = 4 },
		"an index of an index":        func(c *api.Catalog) { c.Indexes[1].Table = 2 },
		"an index of table 0":         func(c *api.Catalog) { c.Indexes[1].Table = 0 },
		"an index, no tables":         func(c *api.Catalog) { c.Tables = nil },
		"a column of another table":   func(c *api.Catalog) { c.Indexes[1].Columns = []int{2} },
		"an index of a shorter table": func(c *api.Catalog) { c.Indexes[0].Table = 6 },
		"the state Absent":            func(c *api.Catalog) { c.Indexes[1].State = api.Absent },
		"a state behind Removing":     func(c *api.Catalog) { c.Indexes[1].State = 8 },
		"a state below 0":             func(c *api.Catalog) { c.Indexes[3].State = -1 },
		"the greatest state":          func(c *api.Catalog) { c.Indexes[0].State = math.MaxInt },
		"too many tables": func(c *api.Catalog) {
			*c = most()
			c.Tables = append(c.Tables, api.Table{ID: c.Next, Name: "q", Columns: columns(1), Key: []int{0}})
			c.Next++
		},
		"too many indexes": func(c *api.Catalog) {
			*c = most()
			c.Indexes = append(c.Indexes, api.Index{ID: c.Next, Table: 1, Name: "q", Columns: []int{0}, State: 1})
			c.Next++
		},
		"too many columns in an index": func(c *api.Catalog) { *c = most(); c.Indexes[0].Columns = append(c.Indexes[0].Columns, 0) },
	} {
		c := good()
		turn(&c)
		if schema.Right(c) {
			t.Errorf("P12: %s: right: %+v", what, c)
		}
	}
}

// Words: each table, and each index, is asked what may be.
func TestRightParts(t *testing.T) {
	for at := range good().Tables {
		for right, list := range map[bool]map[string]api.Table{true: tables(), false: wrongTables()} {
			for what, x := range list {
				c := good()
				c.Indexes = nil
				x.ID = c.Tables[at].ID
				c.Tables[at] = x
				if schema.Right(c) != right {
					t.Errorf("P12: the table %d: %s: right is %v", at, what, !right)
				}
			}
		}
	}
	for _, at := range []int{0, 2, 3} {
		for right, list := range map[bool]map[string]api.Index{true: indexes(), false: wrongIndexes()} {
			for what, x := range list {
				c := good()
				x.ID, x.Table, x.State = c.Indexes[at].ID, 1, api.Removing
				c.Indexes[at] = x
				if schema.Right(c) != right {
					t.Errorf("P12: the index %d: %s: right is %v", at, what, !right)
				}
			}
		}
	}
}
