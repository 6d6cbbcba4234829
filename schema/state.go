package schema

import "armoire/api"

// Next is the state behind the index's own.
func Next(x api.Index) int {
	switch x.State {
	case api.DeleteOnly, api.WriteOnly, api.Backfill, api.DropWrite, api.DropDelete:
		return x.State + 1
	case api.Public:
		return api.Public
	}
	return api.Absent
}

// Reads: do transactions read an index in that state?
func Reads(state int) bool { return does(state).reads }

// Writes: do rows that are put put their entries?
func Writes(state int) bool { return does(state).writes }

// Deletes: do rows that go take their entries along?
func Deletes(state int) bool { return does(state).deletes }

// deeds is what transactions do with an index.
type deeds struct{ reads, writes, deletes bool }

// does is what a state has them do. Each case does all that those below it do: what is read must be written, and what is written must go with its row.
func does(state int) deeds {
	var d deeds
	switch state {
	case api.Public:
		d.reads = true
		fallthrough
	case api.WriteOnly, api.Backfill, api.DropWrite:
		d.writes = true
		fallthrough
	case api.DeleteOnly, api.DropDelete, api.Removing:
		d.deletes = true
	}
	return d
}
