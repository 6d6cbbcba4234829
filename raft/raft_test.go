package raft_test

import (
	"bytes"
	"math"
	"slices"
	"testing"

	"armoire/api"
	"armoire/raft"
)

// same: are two logs the same?
func same(a, b api.Log) bool {
	return a.Hard == b.Hard && a.Snap.Index == b.Snap.Index && a.Snap.Term == b.Snap.Term && bytes.Equal(a.Snap.Data, b.Snap.Data) && sameEntries(a.Entries, b.Entries)
}

func sameEntries(a, b []api.Entry) bool {
	return slices.EqualFunc(a, b, func(a, b api.Entry) bool {
		return a.Index == b.Index && a.Term == b.Term && bytes.Equal(a.Data, b.Data)
	})
}

func sameMsg(a, b api.Msg) bool {
	return a.Kind == b.Kind && a.From == b.From && a.To == b.To && a.Term == b.Term && a.Index == b.Index && a.LogTerm == b.LogTerm && a.Commit == b.Commit &&
		a.Refused == b.Refused && bytes.Equal(a.Data, b.Data) && sameEntries(a.Entries, b.Entries)
}

// row is entries that go on behind an index, of these terms.
func row(behind uint64, terms ...uint64) []api.Entry {
	var list []api.Entry
	for i, term := range terms {
		index := behind + uint64(i) + 1
		list = append(list, api.Entry{Term: term, Index: index, Data: []byte{byte('a' + index%26), byte('0' + term%10)}})
	}
	return list
}

// logOf is a log without a snapshot, whose entries have these terms.
func logOf(term uint64, terms ...uint64) api.Log {
	return api.Log{Hard: api.Hard{Term: term}, Entries: row(0, terms...)}
}

// snapped is a log with a snapshot, and entries of these terms behind it.
func snapped(term, index, snap uint64, terms ...uint64) api.Log {
	return api.Log{Hard: api.Hard{Term: term}, Snap: api.Snap{Index: index, Term: snap, Data: state(index)}, Entries: row(index, terms...)}
}

// ticks: time goes on.
func ticks(r *raft.Node, n int) {
	for range n {
		r.Tick()
	}
}

// step: a message that is to be taken.
func step(t *testing.T, r *raft.Node, m api.Msg) {
	t.Helper()
	if e := r.Step(m); e != api.OK {
		t.Fatalf("P8.2: Step(%+v): %v", m, e)
	}
}

// is: a node is to be so.
func is(t *testing.T, r *raft.Node, want api.Status) {
	t.Helper()
	if got := r.Status(); got != want {
		t.Fatalf("P8.1: Status: %+v; want %+v", got, want)
	}
}

// has: a node is to have this log.
func has(t *testing.T, r *raft.Node, want api.Log) {
	t.Helper()
	if got := r.Log(); !same(got, want) {
		t.Fatalf("P8.1: Log: %+v; want %+v", got, want)
	}
}

// sends: a node is to have sent just these messages.
func sends(t *testing.T, r *raft.Node, want ...api.Msg) {
	t.Helper()
	if got := r.Take(); !slices.EqualFunc(got, want, sameMsg) {
		t.Fatalf("P8.1: Take: %+v; want %+v", got, want)
	}
	if again := r.Take(); len(again) != 0 {
		t.Fatalf("P8.1: Take tells again: %+v", again)
	}
}

// elected: this node leads a group of n, out of a log, by the votes of all others; what it has sent is taken.
func elected(t *testing.T, id, n int, l api.Log) *raft.Node {
	t.Helper()
	r := made(t, id, n, l)
	for range 30 {
		if r.Status().Role != api.Follower {
			break
		}
		r.Tick()
	}
	for from := range n {
		if from != id {
			step(t, r, api.Msg{Kind: api.MsgVoteReply, From: from, To: id, Term: l.Hard.Term + 1})
		}
	}
	if s := r.Status(); s.Role != api.Leader || s.Term != l.Hard.Term+1 {
		t.Fatalf("P8.2: with all votes: %+v", s)
	}
	r.Take()
	return r
}

// P8.1: what New refuses.
func TestNewRefuses(t *testing.T) {
	for i, c := range []struct {
		id, n int
		l     api.Log
	}{
		{0, 0, api.Log{}}, {0, -1, api.Log{}}, {0, api.MaxNodes + 1, api.Log{}}, {0, math.MaxInt, api.Log{}},
		{-1, 1, api.Log{}}, {1, 1, api.Log{}}, {5, 5, api.Log{}}, {math.MaxInt, 5, api.Log{}}, {math.MinInt, 5, api.Log{}},
		{0, 1, api.Log{Hard: api.Hard{Term: 1, Vote: 2}}}, {0, 4, api.Log{Hard: api.Hard{Term: 1, Vote: 5}}}, {0, 5, api.Log{Hard: api.Hard{Term: 1, Vote: 6}}}, {0, 5, api.Log{Hard: api.Hard{Term: 1, Vote: -1}}},
		{0, 1, logOf(1, 2)}, {0, 1, logOf(3, 2, 1)}, {0, 1, logOf(3, 0)},
		{0, 1, api.Log{Hard: api.Hard{Term: 1}, Entries: row(1, 1)}},
		{0, 1, api.Log{Hard: api.Hard{Term: 1}, Entries: append(row(0, 1), row(0, 1)...)}},
		{0, 1, snapped(1, 4, 2)}, {0, 1, snapped(1, 4, 0)}, {0, 1, snapped(1, 0, 1)}, {0, 1, snapped(3, 4, 2, 1)}, {0, 1, snapped(1, 1<<62+1, 1)},
		{0, 1, api.Log{Hard: api.Hard{Term: 1}, Entries: []api.Entry{{Term: 1, Index: 1, Data: make([]byte, api.MaxRecord-99)}}}},
		{0, 1, api.Log{Hard: api.Hard{Term: 1}, Snap: api.Snap{Index: 1, Term: 1, Data: make([]byte, api.MaxRecord-99)}}},
	} {
		if r, e := raft.New(c.id, c.n, c.l); r != nil || e != api.ErrArg {
			t.Errorf("P8.1: the row %d: %v, %v", i, r, e)
		}
	}
}

// P8.1: a new node follows, with its log, and knows what its snapshot covers.
func TestNewFollows(t *testing.T) {
	for n := 1; n <= api.MaxNodes; n++ {
		for id := range n {
			is(t, made(t, id, n, api.Log{}), api.Status{First: 1})
			l := snapped(9, 6, 2, 3, 3, 9)
			l.Hard.Vote = n
			r := made(t, id, n, l)
			is(t, r, api.Status{Term: 9, Vote: n, Commit: 6, First: 7, Last: 9})
			has(t, r, l)
			sends(t, r)
			if list := r.Known(0); len(list) != 0 {
				t.Errorf("P8.1: a new node knows %+v", list)
			}
			l = logOf(4, 1, 4)
			r = made(t, id, n, l)
			is(t, r, api.Status{Term: 4, First: 1, Last: 2})
			has(t, r, l)
		}
	}
	l := api.Log{Hard: api.Hard{Term: math.MaxUint64, Vote: 5}, Snap: api.Snap{Index: 1 << 62, Term: 1, Data: make([]byte, api.MaxRecord-100)}, Entries: []api.Entry{{Term: math.MaxUint64, Index: 1<<62 + 1, Data: make([]byte, api.MaxRecord-100)}}}
	has(t, made(t, 4, 5, l), l)
}

// P8.1: Known tells what is from an index on, up to Commit, and no more.
func TestKnown(t *testing.T) {
	l := snapped(2, 3, 1, 1, 2, 2, 2)
	r := made(t, 1, 3, l)
	knows := func(from uint64, want ...api.Entry) {
		t.Helper()
		if got := r.Known(from); !sameEntries(got, want) {
			t.Errorf("P8.1: Known(%d) up to %d: %+v; want %+v", from, r.Status().Commit, got, want)
		}
	}
	knows(0)
	step(t, r, api.Msg{Kind: api.MsgAppend, From: 0, To: 1, Term: 2, Index: 7, LogTerm: 2, Commit: 6})
	is(t, r, api.Status{Term: 2, Leader: 1, Commit: 6, First: 4, Last: 7})
	for _, from := range []uint64{0, 1, 3, 4} {
		knows(from, l.Entries[:3]...)
	}
	knows(5, l.Entries[1:3]...)
	knows(6, l.Entries[2])
	for _, from := range []uint64{7, 8, 9, 1 << 62, math.MaxUint64} {
		knows(from)
	}
	step(t, r, api.Msg{Kind: api.MsgAppend, From: 0, To: 1, Term: 2, Index: 7, LogTerm: 2, Commit: 7})
	knows(0, l.Entries...)
	if e := r.Compact(5, nil); e != api.OK {
		t.Fatal(e)
	}
	knows(0, l.Entries[2:]...)
	knows(6, l.Entries[2:]...)
	knows(7, l.Entries[3])
	if e := r.Compact(7, nil); e != api.OK {
		t.Fatal(e)
	}
	knows(0)
}

// P8.1: Take tells in order what came about, each once.
func TestTake(t *testing.T) {
	r := made(t, 2, 3, logOf(4, 1, 3))
	sends(t, r)
	ticks(r, 16)
	step(t, r, api.Msg{Kind: api.MsgVote, From: 0, To: 2, Term: 6, Index: 2, LogTerm: 3})
	step(t, r, api.Msg{Kind: api.MsgAppend, From: 0, To: 2, Term: 6, Index: 2, LogTerm: 3})
	step(t, r, api.Msg{Kind: api.MsgVote, From: 1, To: 2, Term: 5})
	sends(t, r,
		api.Msg{Kind: api.MsgVote, From: 2, To: 0, Term: 5, Index: 2, LogTerm: 3},
		api.Msg{Kind: api.MsgVote, From: 2, To: 1, Term: 5, Index: 2, LogTerm: 3},
		api.Msg{Kind: api.MsgVoteReply, From: 2, To: 0, Term: 6},
		api.Msg{Kind: api.MsgAppendReply, From: 2, To: 0, Term: 6, Index: 2},
		api.Msg{Kind: api.MsgVoteReply, From: 2, To: 1, Term: 6, Refused: true})
	step(t, r, api.Msg{Kind: api.MsgVote, From: 1, To: 2, Term: 6, Index: 9, LogTerm: 5})
	sends(t, r, api.Msg{Kind: api.MsgVoteReply, From: 2, To: 1, Term: 6, Refused: true})
}

// P8.1, R1: what a nil node answers; so does one that New did not make.
func TestNil(t *testing.T) {
	for _, r := range []*raft.Node{nil, {}} {
		ticks(r, 30)
		if e := r.Step(api.Msg{Kind: api.MsgVote, From: 1, Term: 1}); e != api.ErrNil {
			t.Errorf("P8.2: Step: %v", e)
		}
		if e := r.Step(api.Msg{}); e != api.ErrNil {
			t.Errorf("P8.2: Step: %v", e)
		}
		if at, e := r.Propose(make([]byte, api.MaxRecord)); at != 0 || e != api.ErrNil {
			t.Errorf("P8.3: Propose: %d, %v", at, e)
		}
		if e := r.Compact(0, make([]byte, api.MaxRecord)); e != api.ErrNil {
			t.Errorf("P8.3: Compact: %v", e)
		}
		has(t, r, api.Log{})
		is(t, r, api.Status{})
		sends(t, r)
		if list := r.Known(0); len(list) != 0 {
			t.Errorf("P8.1: Known: %+v", list)
		}
	}
}

// R2: a node hangs on what was done with it alone; the same done with two is answered the same.
func TestTwins(t *testing.T) {
	r := dice(3)
	a, b, other := made(t, 1, 3, api.Log{}), made(t, 1, 3, api.Log{}), made(t, 1, 3, logOf(7, 5))
	for range 3000 {
		m := someMsg(r, 3)
		m.To = 1
		x, data := r.IntN(8), []byte{byte(r.IntN(256))}
		for _, n := range []*raft.Node{a, b} {
			switch x {
			case 0:
				n.Propose(data)
			case 1:
				n.Compact(n.Status().Commit, data)
			case 2, 3, 4:
				n.Tick()
			default:
				n.Step(m)
			}
			other.Tick()
			other.Take()
		}
		if a.Status() != b.Status() || !same(a.Log(), b.Log()) || !sameEntries(a.Known(0), b.Known(0)) || !slices.EqualFunc(a.Take(), b.Take(), sameMsg) {
			t.Fatalf("R2: %+v; %+v", a.Status(), b.Status())
		}
	}
}
