package schema

import (
	"math"
	"slices"

	"armoire/api"
)

// AddTable is c with one table more, which gets the next ID.
func AddTable(c api.Catalog, t api.Table) (api.Catalog, api.Errno) {
	c = copied(c)
	switch {
	case !tableFits(t):
		return c, api.ErrForm
	case tableAt(c, t.Name) >= 0:
		return c, api.ErrTwice
	case len(c.Tables) >= api.MaxTables || !counts(c):
		return c, api.ErrFull
	}
	t = copiedTable(t)
	t.ID = c.Next
	c.Tables = append(c.Tables, t)
	c.Next++
	c.Version++
	return c, api.OK
}

// AddIndex is c with one index more, of the table of that name: it gets the next ID, and begins its way.
func AddIndex(c api.Catalog, x api.Index, table string) (api.Catalog, api.Errno) {
	c = copied(c)
	at := tableAt(c, table)
	switch {
	case at < 0:
		return c, api.ErrNone
	case !indexFits(x, c.Tables[at]):
		return c, api.ErrForm
	case indexAt(c, x.Name) >= 0:
		return c, api.ErrTwice
	case len(c.Indexes) >= api.MaxIndexes || !counts(c):
		return c, api.ErrFull
	}
	x = copiedIndex(x)
	x.ID, x.Table = c.Next, c.Tables[at].ID
	x.State, x.Bad = api.DeleteOnly, false
	c.Indexes = append(c.Indexes, x)
	c.Next++
	c.Version++
	return c, api.OK
}

// Drop is c with the index of that name on its way out.
func Drop(c api.Catalog, name string) (api.Catalog, api.Errno) {
	c = copied(c)
	at := indexAt(c, name)
	if at < 0 {
		return c, api.ErrNone
	}
	state := c.Indexes[at].State
	if state < api.DeleteOnly || state > api.Public {
		return c, api.ErrState
	}
	out := api.DropDelete
	if state == api.Public { // who has the version ahead still reads it
		out = api.DropWrite
	}
	return moved(c, at, out, false)
}

// Step is c with the index of that ID in its next state.
func Step(c api.Catalog, id, from, to int, bad bool) (api.Catalog, api.Errno) {
	c = copied(c)
	at := slices.IndexFunc(c.Indexes, func(x api.Index) bool { return x.ID == id })
	if at < 0 {
		return c, api.ErrNone
	}
	if !leads(c.Indexes[at], from, to, bad) {
		return c, api.ErrState
	}
	return moved(c, at, to, bad)
}

// leads: may the index, which must be in from, step to to? One that is found bad leaves Backfill for its way out.
func leads(x api.Index, from, to int, bad bool) bool {
	on := to == Next(x) && to != x.State
	out := bad && x.State == api.Backfill && to == api.DropDelete
	return x.State == from && (on || out)
}

// moved is c, which nobody else has, with the index at a place in another state, or without it.
func moved(c api.Catalog, at, to int, bad bool) (api.Catalog, api.Errno) {
	if c.Version == math.MaxInt {
		return c, api.ErrFull
	}
	c.Version++
	if to == api.Absent {
		c.Indexes = slices.Delete(c.Indexes, at, at+1)
		return c, api.OK
	}
	x := &c.Indexes[at]
	x.State = to
	x.Bad = x.Bad || bad
	return c, api.OK
}

// counts: is there another ID, and another Version?
func counts(c api.Catalog) bool {
	return c.Next < mostNext && c.Version < math.MaxInt
}
