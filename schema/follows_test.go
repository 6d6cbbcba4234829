package schema_test

import (
	"math/rand/v2"
	"slices"
	"strconv"
	"testing"

	"armoire/api"
	"armoire/schema"
)

// sideBySide: of two states, where one reads, the other one writes; where one writes, the other one deletes.
func sideBySide(a, b int) bool {
	return (!schema.Reads(a) || schema.Writes(b)) && (!schema.Writes(a) || schema.Deletes(b)) && (!schema.Reads(b) || schema.Writes(a)) && (!schema.Writes(b) || schema.Deletes(a))
}

// What follows, of whatever leads from one state to another; an index that is not there is Absent.
func TestSideBySide(t *testing.T) {
	both := func(from int, c api.Catalog, e api.Errno) {
		if e != api.OK {
			return
		}
		to := api.Absent
		if x, ok := schema.Index(c, "y"); ok {
			to = x.State
		}
		if !sideBySide(from, to) {
			t.Errorf("the states %d and %d are side by side", from, to)
		}
	}
	for _, s := range lives {
		c := in(1, s.state, false)
		n, e := schema.Drop(c, "y")
		both(s.state, n, e)
		for to := -1; to <= 8; to++ {
			for _, bad := range []bool{false, true} {
				n, e := schema.Step(c, 3, s.state, to, bad)
				both(s.state, n, e)
			}
		}
	}
	c, e := schema.AddIndex(good(), plainIndex(), "hats")
	x, _ := schema.Index(c, "q")
	if e != api.OK || !sideBySide(api.Absent, x.State) {
		t.Errorf("a new index has the state %d", x.State)
	}
	if sideBySide(api.DeleteOnly, api.Public) || sideBySide(api.Absent, api.WriteOnly) {
		t.Error("what the test asks for is asked for nowhere")
	}
}

// An index that is left alone comes in by steps, is dropped, and goes, in so many versions.
func TestWholeLife(t *testing.T) {
	c, e := schema.AddIndex(good(), plainIndex(), "hats")
	if e != api.OK {
		t.Fatal(e)
	}
	var went []int
	for range 20 {
		x, ok := schema.Index(c, "q")
		if !ok {
			break
		}
		went = append(went, x.State)
		version := c.Version
		if x.State == api.Public {
			c, e = schema.Drop(c, "q")
		} else {
			c, e = schema.Step(c, x.ID, x.State, schema.Next(x), false)
		}
		if e != api.OK || c.Version != version+1 || !schema.Right(c) {
			t.Fatalf("P12.2: out of %d: %v", x.State, e)
		}
	}
	if !slices.Equal(went, []int{1, 2, 3, 4, 5, 6, 7}) {
		t.Errorf("P12.2: the states of a life: %v", went)
	}
	want := good()
	want.Next, want.Version = 13, 17
	is(t, "P12.2: behind it all", c, api.OK, want, api.OK)
}

// anyChange is some change of a catalog, of which some are refused.
func anyChange(r *rand.Rand, c api.Catalog) (api.Catalog, api.Errno) {
	name := strconv.Itoa(r.IntN(14))
	table := "t" + strconv.Itoa(r.IntN(8))
	switch r.IntN(12) {
	case 0, 1:
		x := plainTable()
		x.Name = table
		x.Key = x.Key[r.IntN(12)/11:]
		return schema.AddTable(c, x)
	case 2, 3:
		return schema.AddIndex(c, api.Index{Name: name, Columns: places(1 + r.IntN(12)/5), Unique: r.IntN(2) > 0, ID: r.IntN(9), State: r.IntN(9)}, table)
	case 4:
		return schema.Drop(c, name)
	case 5:
		return schema.Step(c, r.IntN(c.Next), r.IntN(9), r.IntN(9), r.IntN(2) > 0)
	}
	if len(c.Indexes) == 0 {
		return schema.Drop(c, name)
	}
	x := c.Indexes[r.IntN(len(c.Indexes))]
	if r.IntN(4) == 0 {
		return schema.Step(c, x.ID, x.State, api.DropDelete, true)
	}
	return schema.Step(c, x.ID, x.State, schema.Next(x), r.IntN(8) == 0)
}

// Promises: right catalogs lead to right ones; with an error the catalog is as it was; Version is one more where something was changed; no ID comes again; Bad stays; tables stay as they were.
func TestManyChanges(t *testing.T) {
	for seed := range 60 {
		r := rand.New(rand.NewPCG(uint64(seed), 12))
		c := api.Catalog{Next: 1}
		var count [22]int
		for range 400 {
			n, e := anyChange(r, c)
			count[e]++
			if !schema.Right(n) {
				t.Fatalf("seed %d: not right, behind %v: %+v", seed, e, n)
			}
			if e != api.OK && !same(n, c) {
				t.Fatalf("seed %d: %v changes %+v to %+v", seed, e, c, n)
			}
			if e == api.OK {
				goesOn(t, c, n)
			}
			c = n
		}
		for _, e := range []api.Errno{api.OK, api.ErrNone, api.ErrForm, api.ErrTwice, api.ErrState} {
			if count[e] == 0 {
				t.Errorf("seed %d: no call answers %v", seed, e)
			}
		}
	}
}

// goesOn: may n be the version behind c?
func goesOn(t *testing.T, c, n api.Catalog) {
	t.Helper()
	if n.Version != c.Version+1 || n.Next < c.Next || n.Next > c.Next+1 {
		t.Fatalf("from the version %d to %d, Next from %d to %d", c.Version, n.Version, c.Next, n.Next)
	}
	if len(n.Tables) < len(c.Tables) || !same(api.Catalog{Tables: n.Tables[:len(c.Tables)]}, api.Catalog{Tables: c.Tables}) {
		t.Fatalf("tables from %+v to %+v", c.Tables, n.Tables)
	}
	for _, x := range n.Indexes {
		if x.ID >= c.Next {
			continue
		}
		was, ok := schema.Index(c, x.Name)
		if !ok || was.ID != x.ID || was.Bad && !x.Bad {
			t.Fatalf("the index %+v was %+v, %v", x, was, ok)
		}
		was.State, was.Bad = x.State, x.Bad
		if !same(indexesOf(was), indexesOf(x)) {
			t.Fatalf("the index %+v was %+v", x, was)
		}
	}
}
