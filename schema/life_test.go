package schema_test

import (
	"fmt"
	"math"
	"testing"

	"armoire/api"
	"armoire/schema"
)

// lives is what chapter 12 says of each state, written down by hand.
var lives = []struct {
	state, next            int
	drop                   int // what Drop leads to; 0: it is refused
	reads, writes, deletes bool
}{
	{state: api.DeleteOnly, next: api.WriteOnly, drop: api.DropDelete, deletes: true},
	{state: api.WriteOnly, next: api.Backfill, drop: api.DropDelete, writes: true, deletes: true},
	{state: api.Backfill, next: api.Public, drop: api.DropDelete, writes: true, deletes: true},
	{state: api.Public, next: api.Public, drop: api.DropWrite, reads: true, writes: true, deletes: true},
	{state: api.DropWrite, next: api.DropDelete, writes: true, deletes: true},
	{state: api.DropDelete, next: api.Removing, deletes: true},
	{state: api.Removing, next: api.Absent, deletes: true},
}

// noStates: numbers that are none, or that of what is not there.
var noStates = []int{api.Absent, 8, 9, 100, -1, -2, 1 << 32, 1<<32 + api.Public, math.MaxInt, math.MinInt}

// P12.2, P12.3: each state, and what is none.
func TestStates(t *testing.T) {
	for _, s := range lives {
		x := api.Index{ID: 4, Name: "q", Table: 1, State: s.state}
		if n := schema.Next(x); n != s.next {
			t.Errorf("P12.2: Next of %d: %d; want %d", s.state, n, s.next)
		}
		x.Bad, x.Unique = true, true
		if n := schema.Next(x); n != s.next {
			t.Errorf("P12.2: Next of %d, Bad: %d; want %d", s.state, n, s.next)
		}
		if r, w, d := schema.Reads(s.state), schema.Writes(s.state), schema.Deletes(s.state); r != s.reads || w != s.writes || d != s.deletes {
			t.Errorf("P12.3: the state %d: %v, %v, %v", s.state, r, w, d)
		}
	}
	for _, state := range noStates {
		if n := schema.Next(api.Index{State: state}); n != api.Absent {
			t.Errorf("P12.2: Next of %d: %d; want 0", state, n)
		}
		if schema.Reads(state) || schema.Writes(state) || schema.Deletes(state) {
			t.Errorf("P12.3: %d, which is no state, does something", state)
		}
	}
}

// in is good, whose index at a place is in that state.
func in(at, state int, bad bool) api.Catalog {
	c := good()
	c.Indexes[at].State, c.Indexes[at].Bad = state, bad
	return c
}

// P12.2: Drop, of each index in each state.
func TestDrop(t *testing.T) {
	for at := range good().Indexes {
		for _, s := range lives {
			for _, bad := range []bool{false, true} {
				c := in(at, s.state, bad)
				got, e := schema.Drop(c, c.Indexes[at].Name)
				what := fmt.Sprintf("P12.2: Drop of the index %d in the state %d", at, s.state)
				if s.drop == 0 {
					is(t, what, got, e, c, api.ErrState)
					continue
				}
				want := in(at, s.drop, bad)
				want.Version++
				is(t, what, got, e, want, api.OK)
			}
		}
	}
}

// P12.2: Drop of no index's name.
func TestDropNone(t *testing.T) {
	for _, name := range []string{"", "q", "coats", "shoes", "X", "a_", "a_11"} {
		got, e := schema.Drop(good(), name)
		is(t, "P12.2: Drop of "+name, got, e, good(), api.ErrNone)
	}
	got, e := schema.Drop(api.Catalog{Next: 1}, "x")
	is(t, "P12.2: Drop of nothing", got, e, api.Catalog{Next: 1}, api.ErrNone)
}

// leads: may Step go from a state to another one? P12.2, by the table of lives.
func leads(state, from, to int, bad bool) bool {
	if from != state {
		return false
	}
	if bad && state == api.Backfill && to == api.DropDelete {
		return true
	}
	for _, s := range lives {
		if s.state == state {
			return to == s.next && to != state
		}
	}
	return false
}

// P12.2: Step of each index in each state, from and to all states, and what is none.
func TestStep(t *testing.T) {
	numbers := append([]int{1, 2, 3, 4, 5, 6, 7}, noStates...)
	done := 0
	for at := range good().Indexes {
		for _, s := range lives {
			for _, from := range numbers {
				for _, to := range numbers {
					for bits := range 4 {
						was, bad := bits&1 > 0, bits&2 > 0
						c := in(at, s.state, was)
						got, e := schema.Step(c, c.Indexes[at].ID, from, to, bad)
						what := fmt.Sprintf("P12.2: Step of the index %d in %d, from %d to %d, %v, was %v", at, s.state, from, to, bad, was)
						if !leads(s.state, from, to, bad) {
							is(t, what, got, e, c, api.ErrState)
							continue
						}
						done++
						is(t, what, got, e, stepped(at, to, was || bad), api.OK)
					}
				}
			}
		}
	}
	if want := 4 * (6*4 + 2); done != want {
		t.Errorf("P12.2: %d steps are done; want %d", done, want)
	}
}

// stepped is good as it is when its index at a place has come to that state.
func stepped(at, to int, bad bool) api.Catalog {
	c := in(at, to, bad)
	c.Version++
	if to == api.Absent {
		c.Indexes = append(c.Indexes[:at], c.Indexes[at+1:]...)
	}
	return c
}

// P12.2, R5: an ID that no index has is refused ahead of all else; a table's is none.
func TestStepNone(t *testing.T) {
	for _, id := range []int{0, 1, 5, 6, 4, 8, 10, 12, -1, -2, 1 << 30, math.MaxInt, math.MinInt} {
		for _, from := range []int{api.Absent, api.DeleteOnly, api.Backfill, api.Public, 99} {
			for _, to := range []int{api.Absent, api.WriteOnly, api.Public, api.DropDelete} {
				got, e := schema.Step(good(), id, from, to, to == api.DropDelete)
				is(t, fmt.Sprintf("P12.2: Step of %d", id), got, e, good(), api.ErrNone)
			}
		}
	}
	got, e := schema.Step(api.Catalog{Next: 1}, 1, 1, 2, false)
	is(t, "P12.2: Step of nothing", got, e, api.Catalog{Next: 1}, api.ErrNone)
}

// P12.2: what is gone has left its name, and its room, but not its ID.
func TestGone(t *testing.T) {
	c := most()
	c.Indexes[4].State = api.Removing
	c, e := schema.Step(c, c.Indexes[4].ID, api.Removing, api.Absent, false)
	if _, ok := schema.Index(c, "x4"); e != api.OK || ok {
		t.Fatalf("P12.2: it is not gone: %v", e)
	}
	next := c.Next
	c, e = schema.AddIndex(c, api.Index{Name: "x4", Columns: []int{0}}, "t5")
	x, ok := schema.Index(c, "x4")
	if e != api.OK || !ok || x.ID != next || c.Next != next+1 || !schema.Right(c) {
		t.Errorf("P12.1: the name of what is gone: %+v, %v", x, e)
	}
}
