package vault_test

import (
	"math"
	"testing"

	"armoire/api"
	"armoire/vault"
)

// good is a right log with a snapshot, several terms, and entries with Data and without.
func good() api.Log {
	return api.Log{
		Hard: api.Hard{Term: 9, Vote: 3},
		Snap: api.Snap{Index: 6, Term: 2, Data: data(50, 1)},
		Entries: []api.Entry{
			{Term: 2, Index: 7, Data: data(10, 2)},
			{Term: 3, Index: 8},
			{Term: 3, Index: 9, Data: data(70, 3)},
			{Term: 7, Index: 10, Data: data(1, 4)},
		},
	}
}

// P7.1: what is right, up to the bounds.
func TestRight(t *testing.T) {
	most := make([]byte, api.MaxRecord-100)
	for name, turn := range map[string]func(l *api.Log){
		"as it is":                     func(l *api.Log) {},
		"nothing":                      func(l *api.Log) { *l = api.Log{} },
		"no snapshot's bytes":          func(l *api.Log) { l.Snap.Data = nil },
		"no entries":                   func(l *api.Log) { l.Entries = nil },
		"an empty list":                func(l *api.Log) { l.Entries = []api.Entry{} },
		"the last entry's term":        func(l *api.Log) { l.Hard.Term = 7 },
		"the snapshot's term":          func(l *api.Log) { l.Hard.Term, l.Entries = 2, nil },
		"the greatest term":            func(l *api.Log) { l.Hard.Term, l.Entries[3].Term = math.MaxUint64, math.MaxUint64 },
		"nobody":                       func(l *api.Log) { l.Hard.Vote = 0 },
		"the last node":                func(l *api.Log) { l.Hard.Vote = api.MaxNodes },
		"a vote in no term":            func(l *api.Log) { *l = api.Log{Hard: api.Hard{Vote: 1}} },
		"an entry's most bytes":        func(l *api.Log) { l.Entries[1].Data = most },
		"a snapshot's most bytes":      func(l *api.Log) { l.Snap.Data = most },
		"bytes of no snapshot":         func(l *api.Log) { *l = api.Log{Snap: api.Snap{Data: []byte("a")}} },
		"all of one term":              func(l *api.Log) { *l = row(1, 5, 5, 5); l.Snap.Data = []byte{} },
		"the first entry, a late term": func(l *api.Log) { *l = row(8, 5) },
		"the farthest snapshot": func(l *api.Log) {
			l.Snap.Index, l.Entries = 1<<62, []api.Entry{{Term: 2, Index: 1<<62 + 1}, {Term: 9, Index: 1<<62 + 2}}
		},
	} {
		l := good()
		turn(&l)
		if !vault.Right(l) {
			t.Errorf("P7.1: %s: not right", name)
		}
		if v := opened(t, made(t, 12000)); v.Put(l) != nil || !same(v.Log(), l) {
			t.Errorf("P7.1: %s: Put", name)
		}
	}
}

// wrongs: what is not right, each for one reason.
func wrongs() map[string]func(l *api.Log) {
	long := make([]byte, api.MaxRecord-99)
	return map[string]func(l *api.Log){
		"a vote below 0":                  func(l *api.Log) { l.Hard.Vote = -1 },
		"a vote far below 0":              func(l *api.Log) { l.Hard.Vote = math.MinInt },
		"a vote for no node":              func(l *api.Log) { l.Hard.Vote = api.MaxNodes + 1 },
		"a vote far above":                func(l *api.Log) { l.Hard.Vote = math.MaxInt },
		"a term below the last entry's":   func(l *api.Log) { l.Hard.Term = 6 },
		"a term below the snapshot's":     func(l *api.Log) { l.Hard.Term, l.Entries = 1, nil },
		"no term":                         func(l *api.Log) { l.Hard.Term = 0 },
		"a snapshot without a term":       func(l *api.Log) { l.Snap.Term = 0 },
		"a snapshot without an index":     func(l *api.Log) { l.Snap.Index, l.Entries = 0, nil },
		"a snapshot without either, late": func(l *api.Log) { l.Snap = api.Snap{} },
		"a snapshot too far":              func(l *api.Log) { l.Snap.Index, l.Entries = 1<<62+1, nil },
		"a snapshot farthest of all":      func(l *api.Log) { l.Snap.Index, l.Entries = math.MaxUint64, nil },
		"indexes that go round":           func(l *api.Log) { l.Snap.Index, l.Entries = math.MaxUint64, []api.Entry{{Term: 2}} },
		"a gap behind the snapshot":       func(l *api.Log) { l.Entries = l.Entries[1:] },
		"a gap":                           func(l *api.Log) { l.Entries[2].Index++ },
		"one index twice":                 func(l *api.Log) { l.Entries[2].Index-- },
		"the snapshot's index":            func(l *api.Log) { l.Entries[0].Index-- },
		"entries from 0 on":               func(l *api.Log) { *l = row(3, 1, 1); l.Entries[0].Index, l.Entries[1].Index = 0, 1 },
		"a term that falls":               func(l *api.Log) { l.Entries[2].Term = 2 },
		"a first term below":              func(l *api.Log) { l.Entries[0].Term = 1 },
		"a first term 0":                  func(l *api.Log) { *l = row(3, 1, 1); l.Entries[0].Term = 0 },
		"a last term above":               func(l *api.Log) { l.Entries[3].Term = 10 },
		"a first term above":              func(l *api.Log) { l.Entries = l.Entries[:1]; l.Entries[0].Term = 10 },
		"an entry too long":               func(l *api.Log) { l.Entries[3].Data = long },
		"a first entry too long":          func(l *api.Log) { l.Entries[0].Data = long },
		"a snapshot too long":             func(l *api.Log) { l.Snap.Data = long },
		"bytes of no snapshot, too long":  func(l *api.Log) { *l = api.Log{Snap: api.Snap{Data: long}} },
	}
}

// P7.1: what is not right is refused, and changes nothing.
func TestNotRight(t *testing.T) {
	d := made(t, 12000)
	v := opened(t, d)
	put(t, v, good())
	for name, turn := range wrongs() {
		l := good()
		turn(&l)
		if vault.Right(l) {
			t.Errorf("P7.1: %s: right", name)
		}
		answers(t, name, v.Put(l), api.ErrForm)
		has(t, v, good())
	}
	has(t, opened(t, d), good())
}
