package raft_test

import (
	"slices"
	"testing"

	"armoire/api"
)

// follows is one message of a leader in the term 6, and what comes of it to a follower whose log has the terms 1 2 2 4, and which knows 2 of them.
type follows struct {
	name        string
	index, term uint64
	entries     []api.Entry
	commit      uint64
	logTerms    []uint64
	known       uint64
	refused     bool
	same        uint64 // that it answers
	most        uint64 // if it is refused: where it lets it try at most
}

// P8.2, P8.4: what a follower does with entries.
func TestFollow(t *testing.T) {
	all := []uint64{1, 2, 2, 4}
	for _, c := range []follows{
		{name: "nothing, at the end", index: 4, term: 4, logTerms: all, known: 2, same: 4},
		{name: "nothing, and Commit", index: 4, term: 4, commit: 3, logTerms: all, known: 3, same: 4},
		{name: "nothing, and a Commit behind it", index: 4, term: 4, commit: 9, logTerms: all, known: 4, same: 4},
		{name: "nothing, ahead of the end, and a Commit behind it", index: 3, term: 2, commit: 9, logTerms: all, known: 3, same: 3},
		{name: "nothing, and an elder Commit", index: 4, term: 4, commit: 1, logTerms: all, known: 2, same: 4},
		{name: "new ones", index: 4, term: 4, entries: row(4, 4, 6), logTerms: []uint64{1, 2, 2, 4, 4, 6}, known: 2, same: 6},
		{name: "new ones, known", index: 4, term: 4, entries: row(4, 4, 6), commit: 5, logTerms: []uint64{1, 2, 2, 4, 4, 6}, known: 5, same: 6},
		{name: "what is there", index: 2, term: 2, entries: row(2, 2), logTerms: all, known: 2, same: 3},
		{name: "what is there, and a Commit behind it", index: 2, term: 2, entries: row(2, 2), commit: 4, logTerms: all, known: 3, same: 3},
		{name: "what is there, and more", index: 3, term: 2, entries: row(3, 4, 5), logTerms: []uint64{1, 2, 2, 4, 5}, known: 2, same: 5},
		{name: "others", index: 2, term: 2, entries: row(2, 5), logTerms: []uint64{1, 2, 5}, known: 2, same: 3},
		{name: "others behind what is there", index: 2, term: 2, entries: row(2, 2, 5, 6), commit: 4, logTerms: []uint64{1, 2, 2, 5, 6}, known: 4, same: 5},
		{name: "what is committed", index: 0, entries: row(0, 1), commit: 1, logTerms: all, known: 2, same: 2},
		{name: "nothing, where all is committed", index: 1, term: 1, commit: 1, logTerms: all, known: 2, same: 2},
		{name: "what is committed, and others", index: 0, entries: row(0, 1, 2, 3), commit: 3, logTerms: []uint64{1, 2, 3}, known: 3, same: 3},
		{name: "what is just committed", index: 0, entries: row(0, 1, 2), logTerms: all, known: 2, same: 2},
		{name: "behind the end", index: 5, term: 4, entries: row(5, 6), commit: 6, logTerms: all, known: 2, refused: true, most: 4},
		{name: "far behind the end", index: 1 << 63, term: 4, logTerms: all, known: 2, refused: true, most: 4},
		{name: "behind another term", index: 4, term: 5, entries: row(4, 6), commit: 4, logTerms: all, known: 2, refused: true, most: 3},
		{name: "behind a lower term", index: 4, term: 3, logTerms: all, known: 2, refused: true, most: 3},
		{name: "behind a term that is below all but what is committed", index: 4, term: 1, logTerms: all, known: 2, refused: true, most: 2},
		{name: "without a term", index: 3, logTerms: all, known: 2, refused: true, most: 2},
	} {
		r := made(t, 1, 3, logOf(5, all...))
		step(t, r, api.Msg{Kind: api.MsgAppend, From: 0, To: 1, Term: 6, Index: 2, LogTerm: 2, Commit: 2})
		r.Take()
		step(t, r, api.Msg{Kind: api.MsgAppend, From: 0, To: 1, Term: 6, Index: c.index, LogTerm: c.term, Entries: c.entries, Commit: c.commit})
		t.Log(c.name)
		is(t, r, api.Status{Term: 6, Leader: 1, Commit: c.known, First: 1, Last: uint64(len(c.logTerms))})
		for i, e := range r.Log().Entries {
			if e.Term != c.logTerms[i] {
				t.Errorf("P8.4: %+v; want the terms %v", r.Log().Entries, c.logTerms)
			}
		}
		list := r.Take()
		if len(list) != 1 || list[0].Kind != api.MsgAppendReply || list[0].To != 0 || list[0].Term != 6 || list[0].Refused != c.refused {
			t.Fatalf("P8.2: it answers %+v", list)
		}
		if at := list[0].Index; !c.refused && at != c.same || c.refused && (at > c.most || at < 2) {
			t.Errorf("P8.2: it answers %+v", list)
		}
	}
}

// P8.2: entries' Data are the leader's.
func TestFollowData(t *testing.T) {
	r := made(t, 1, 3, api.Log{})
	want := []api.Entry{{Term: 1, Index: 1, Data: []byte("hat")}, {Term: 1, Index: 2}, {Term: 2, Index: 3, Data: make([]byte, api.MaxRecord-100)}}
	step(t, r, api.Msg{Kind: api.MsgAppend, From: 0, To: 1, Term: 2, Entries: want, Commit: 3})
	has(t, r, api.Log{Hard: api.Hard{Term: 2}, Entries: want})
	if got := r.Known(0); !sameEntries(got, want) {
		t.Errorf("P8.1: Known: %+v", got)
	}
}

// R1: entries that may not be so are not taken, whatever stands ahead of them.
func TestOddEntries(t *testing.T) {
	r := made(t, 1, 3, logOf(6))
	step(t, r, api.Msg{Kind: api.MsgAppend, From: 0, To: 1, Term: 6, Entries: row(0, 0, 1)})
	has(t, r, logOf(6))
	good := row(2, 2, 3)
	for name, turn := range map[string]func(l []api.Entry){
		"an index that is too great": func(l []api.Entry) { l[0].Index++ },
		"an index twice":             func(l []api.Entry) { l[1].Index-- },
		"an index 0":                 func(l []api.Entry) { l[1].Index = 0 },
		"a term that falls":          func(l []api.Entry) { l[0].Term, l[1].Term = 3, 2 },
		"a term below the one ahead": func(l []api.Entry) { l[0].Term = 1 },
		"a term 0":                   func(l []api.Entry) { l[0].Term = 0 },
		"a term above the leader's":  func(l []api.Entry) { l[1].Term = 7 },
		"too many bytes":             func(l []api.Entry) { l[1].Data = make([]byte, api.MaxRecord-99) },
	} {
		was := logOf(6, 1, 2)
		r := made(t, 1, 3, was)
		list := slices.Clone(good)
		turn(list)
		step(t, r, api.Msg{Kind: api.MsgAppend, From: 0, To: 1, Term: 6, Index: 2, LogTerm: 2, Entries: list, Commit: 4})
		if !same(r.Log(), was) || r.Status().Commit != 0 {
			t.Errorf("R1: %s is taken: %+v", name, r.Log())
		}
		step(t, r, api.Msg{Kind: api.MsgAppend, From: 0, To: 1, Term: 6, Index: 2, LogTerm: 2, Entries: good, Commit: 4})
		if s := r.Status(); s.Commit != 4 {
			t.Errorf("P8.2: %+v", s)
		}
	}
}

// P8.3, P8.4: what a follower does with a snapshot.
func TestLoad(t *testing.T) {
	old := snapped(5, 3, 1, 2, 2, 4, 4) // up to 7; it knows up to 4
	for _, c := range []struct {
		name        string
		index, term uint64
		want        api.Log
		known, same uint64
	}{
		{"behind the end", 9, 5, snapped(6, 9, 5), 9, 9},
		{"at the end, the same term", 7, 4, snapped(6, 7, 4), 7, 7},
		{"at the end, another term", 7, 5, snapped(6, 7, 5), 7, 7},
		{"within, the same term", 5, 2, api.Log{Hard: api.Hard{Term: 6}, Snap: api.Snap{Index: 5, Term: 2, Data: state(5)}, Entries: old.Entries[2:]}, 5, 5},
		{"within, another term", 5, 3, snapped(6, 5, 3), 5, 5},
		{"at Commit", 4, 2, api.Log{Hard: api.Hard{Term: 6}, Snap: old.Snap, Entries: old.Entries}, 4, 4},
		{"at its own", 3, 1, api.Log{Hard: api.Hard{Term: 6}, Snap: old.Snap, Entries: old.Entries}, 4, 4},
		{"ahead of its own", 1, 1, api.Log{Hard: api.Hard{Term: 6}, Snap: old.Snap, Entries: old.Entries}, 4, 4},
	} {
		t.Log(c.name)
		r := made(t, 1, 3, old)
		step(t, r, api.Msg{Kind: api.MsgAppend, From: 2, To: 1, Term: 6, Index: 4, LogTerm: 2, Commit: 4})
		r.Take()
		step(t, r, api.Msg{Kind: api.MsgSnap, From: 2, To: 1, Term: 6, Index: c.index, LogTerm: c.term, Data: state(c.index)})
		has(t, r, c.want)
		is(t, r, api.Status{Term: 6, Leader: 3, Commit: c.known, First: c.want.Snap.Index + 1, Last: c.want.Snap.Index + uint64(len(c.want.Entries))})
		sends(t, r, api.Msg{Kind: api.MsgAppendReply, From: 1, To: 2, Term: 6, Index: c.same})
	}
	for name, m := range map[string]api.Msg{
		"no index":                   {LogTerm: 1},
		"no term":                    {Index: 9},
		"a term above the leader's":  {Index: 9, LogTerm: 7},
		"too many bytes":             {Index: 9, LogTerm: 6, Data: make([]byte, api.MaxRecord-99)},
		"an index that is too great": {Index: 1<<62 + 1, LogTerm: 6},
	} {
		r := made(t, 1, 3, old)
		m.Kind, m.From, m.To, m.Term = api.MsgSnap, 2, 1, 6
		step(t, r, m)
		if l := r.Log(); !sameEntries(l.Entries, old.Entries) || l.Snap.Index != 3 {
			t.Errorf("R1: a snapshot with %s is taken: %+v", name, l)
		}
	}
	r := made(t, 0, 2, api.Log{})
	most := make([]byte, api.MaxRecord-100)
	step(t, r, api.Msg{Kind: api.MsgSnap, From: 1, To: 0, Term: 1, Index: 3, LogTerm: 1, Data: most})
	has(t, r, api.Log{Hard: api.Hard{Term: 1}, Snap: api.Snap{Index: 3, Term: 1, Data: most}})
}
