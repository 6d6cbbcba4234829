package raft_test

import (
	"testing"

	"armoire/api"
	"armoire/raft"
)

// agree: a node tells the leader 0 up to where its log is the same.
func agree(t *testing.T, r *raft.Node, from int, index uint64) {
	t.Helper()
	step(t, r, api.Msg{Kind: api.MsgAppendReply, From: from, To: 0, Term: r.Status().Term, Index: index})
}

// P8.3: what Propose answers.
func TestPropose(t *testing.T) {
	long := make([]byte, api.MaxRecord-99)
	for role := api.Follower; role <= api.Candidate; role++ {
		r := inRole(t, role)
		was := r.Log()
		for _, data := range [][]byte{nil, []byte("x"), long} {
			if at, e := r.Propose(data); at != 0 || e != api.ErrLeader {
				t.Errorf("P8.3: Propose in the role %d: %d, %v", role, at, e)
			}
		}
		has(t, r, was)
		sends(t, r)
	}
	r := inRole(t, api.Leader)
	want := r.Log()
	if at, e := r.Propose(long); at != 0 || e != api.ErrLong {
		t.Errorf("P8.3: Propose of too much: %d, %v", at, e)
	}
	has(t, r, want)
	sends(t, r)
	for i, data := range [][]byte{[]byte("hat"), nil, long[1:], {}, []byte("hat")} {
		index := uint64(4 + i)
		if at, e := r.Propose(data); at != index || e != api.OK {
			t.Errorf("P8.3: Propose: %d, %v; want %d", at, e, index)
		}
		want.Entries = append(want.Entries, api.Entry{Term: 5, Index: index, Data: data})
		has(t, r, want)
		is(t, r, api.Status{Role: api.Leader, Term: 5, Vote: 1, Leader: 1, First: 1, Last: index})
	}
}

// P8.2: an entry is committed as soon as a majority has it, not ahead of that.
func TestMajority(t *testing.T) {
	for n := 2; n <= api.MaxNodes; n++ {
		r := elected(t, 0, n, logOf(2, 1, 2))
		r.Propose([]byte("x"))
		for from := 1; from < n; from++ {
			want := uint64(0)
			if from+1 > n/2 {
				want = 3
			}
			agree(t, r, from, 3)
			agree(t, r, from, 3)
			if s := r.Status(); s.Commit != want {
				t.Errorf("P8.2: %d of %d have it: %+v", from+1, n, s)
			}
		}
		agree(t, r, 1, 2)
		for from := n - 1; from > 0; from-- {
			want := uint64(3)
			if n-from+1 > n/2 {
				want = 4
			}
			agree(t, r, from, 4)
			agree(t, r, from, 3)
			if s := r.Status(); s.Commit != want {
				t.Errorf("P8.2: %d of %d have more: %+v", n-from+1, n, s)
			}
		}
		for from := 1; from < n; from++ { // what was never sent is not had
			agree(t, r, from, 9)
			if s := r.Status(); s.Commit != 4 || s.Last != 4 {
				t.Errorf("R1: %+v", s)
			}
		}
	}
}

// P8.4: of elder terms nothing is committed by a majority that has it, until it has an entry of this one, too.
func TestElderTerms(t *testing.T) {
	r := elected(t, 0, 5, logOf(3, 1, 2, 2))
	for from := 1; from < 5; from++ {
		agree(t, r, from, 3)
	}
	is(t, r, api.Status{Role: api.Leader, Term: 4, Vote: 1, Leader: 1, First: 1, Last: 4})
	agree(t, r, 1, 4)
	is(t, r, api.Status{Role: api.Leader, Term: 4, Vote: 1, Leader: 1, First: 1, Last: 4})
	agree(t, r, 2, 4)
	is(t, r, api.Status{Role: api.Leader, Term: 4, Vote: 1, Leader: 1, Commit: 4, First: 1, Last: 4})
	if list := r.Known(0); len(list) != 4 {
		t.Errorf("P8.1: Known: %+v", list)
	}
}

// P8.4: what a refusal, an answer of an elder term, or one to who does not lead tells commits nothing.
func TestNoAgreement(t *testing.T) {
	r := elected(t, 0, 3, logOf(2, 1))
	step(t, r, api.Msg{Kind: api.MsgAppendReply, From: 1, To: 0, Term: 3, Index: 2, Refused: true})
	step(t, r, api.Msg{Kind: api.MsgAppendReply, From: 1, To: 0, Term: 2, Index: 2})
	if s := r.Status(); s.Commit != 0 {
		t.Errorf("P8.4: %+v", s)
	}
	step(t, r, api.Msg{Kind: api.MsgAppendReply, From: 1, To: 0, Term: 4, Index: 2})
	is(t, r, api.Status{Term: 4, First: 1, Last: 2})
	agree(t, r, 1, 2)
	agree(t, r, 2, 2)
	is(t, r, api.Status{Term: 4, First: 1, Last: 2})
}

// P8.4: what a node knew of others when it led in an elder term counts no more.
func TestElderTime(t *testing.T) {
	r := elected(t, 0, 5, logOf(2, 1))
	for range 3 {
		r.Propose([]byte("x"))
	}
	agree(t, r, 1, 5)
	step(t, r, api.Msg{Kind: api.MsgAppend, From: 3, To: 0, Term: 4, Index: 1, LogTerm: 1, Entries: row(1, 4, 4, 4)})
	ticks(r, 10)
	for _, from := range []int{2, 3} {
		step(t, r, api.Msg{Kind: api.MsgVoteReply, From: from, To: 0, Term: 5})
	}
	agree(t, r, 2, 5)
	is(t, r, api.Status{Role: api.Leader, Term: 5, Vote: 1, Leader: 1, First: 1, Last: 5})
	agree(t, r, 1, 5)
	is(t, r, api.Status{Role: api.Leader, Term: 5, Vote: 1, Leader: 1, Commit: 5, First: 1, Last: 5})
}

// answers: a node is to answer a leader's message; told are the leader's messages to it that come of that.
func answers(t *testing.T, leader, r *raft.Node, m api.Msg) []api.Msg {
	t.Helper()
	step(t, r, m)
	for _, a := range r.Take() {
		step(t, leader, a)
	}
	var list []api.Msg
	for _, a := range leader.Take() {
		if a.To == m.To {
			list = append(list, a)
		}
	}
	return list
}

// caught: a follower gets what a leader sends, and answers, till nothing comes any more.
func caught(t *testing.T, leader, r *raft.Node, list []api.Msg) int {
	t.Helper()
	n := 0
	for ; len(list) > 0; n++ {
		if n > 1000 {
			t.Fatal("P8.5: a leader and a follower come to no end")
		}
		list = append(list[1:], answers(t, leader, r, list[0])...)
	}
	return n
}

// to: the messages that a leader sends to one node within three ticks.
func to(r *raft.Node, id int) []api.Msg {
	r.Take()
	ticks(r, 3)
	var list []api.Msg
	for _, m := range r.Take() {
		if m.To == id {
			list = append(list, m)
		}
	}
	return list
}

// P8.2, P8.4: whatever a follower's log is, a leader brings it to its own.
func TestCatchesUp(t *testing.T) {
	leads := logOf(9, 1, 1, 2, 2, 2, 5, 5, 8, 8)
	for i, l := range []api.Log{{}, leads, logOf(9, 1), logOf(9, 1, 1, 2, 2, 2, 5), logOf(9, 1, 1, 1, 1, 1, 1, 1, 1), logOf(9, 1, 1, 2, 3, 3, 3, 3, 3, 3, 3, 3), logOf(9, 3, 4, 6, 7, 7, 7, 7, 7),
		logOf(9, 7), logOf(9, 1, 1, 2, 2, 2, 5, 5, 8, 8, 8, 8), logOf(9, 1, 1, 2, 2, 2, 4, 4, 4, 4), logOf(8, 1, 1, 2, 2, 2, 5, 5, 5, 5, 5), snapped(9, 3, 2), snapped(8, 4, 2, 2, 3, 4, 4, 4, 4, 4)} {
		leader, r := elected(t, 0, 3, leads), made(t, 1, 3, l)
		leader.Propose([]byte("x"))
		if n := caught(t, leader, r, to(leader, 1)); n > 20 {
			t.Errorf("P8.2: the row %d: %d messages", i, n)
		}
		was, got := leader.Log(), r.Log()
		if n := len(was.Entries); !sameEntries(got.Entries, was.Entries[uint64(n)-uint64(len(got.Entries)):]) || r.Status().Last != leader.Status().Last {
			t.Errorf("P8.2: the row %d: %+v; want %+v", i, got, was)
		}
		if s := leader.Status(); s.Commit != s.Last {
			t.Errorf("P8.2: the row %d: a majority has all: %+v", i, s)
		}
		for _, m := range to(leader, 1) {
			step(t, r, m)
		}
		if a, b := leader.Status().Commit, r.Status().Commit; a != b {
			t.Errorf("P8.2: the row %d: Commit is %d, and %d", i, a, b)
		}
	}
}

// P8.2: what gets lost is sent again, also where what was sent behind it arrived.
func TestLost(t *testing.T) {
	leader, r := elected(t, 0, 3, api.Log{}), made(t, 1, 3, api.Log{})
	for k := range 30 {
		leader.Propose([]byte{byte(k)})
		for i, m := range leader.Take() {
			if m.To == 1 && (k+i)%3 == 0 {
				answers(t, leader, r, m)
			}
		}
		if k%7 == 6 {
			caught(t, leader, r, to(leader, 1))
			if a, b := leader.Log(), r.Log(); !sameEntries(a.Entries, b.Entries) {
				t.Fatalf("P8.2: %+v; want %+v", b, a)
			}
		}
	}
}

// P8.3: what Compact answers, and what it leaves.
func TestCompact(t *testing.T) {
	long := make([]byte, api.MaxRecord-99)
	refuses := func(r *raft.Node, index uint64, data []byte, want api.Errno) {
		t.Helper()
		was, s := r.Log(), r.Status()
		if e := r.Compact(index, data); e != want {
			t.Errorf("P8.3: Compact(%d) of %d bytes: %v; want %v; %+v", index, len(data), e, want, s)
		}
		has(t, r, was)
		is(t, r, s)
	}
	for role := api.Follower; role <= api.Leader; role++ {
		l := snapped(4, 3, 2, 2, 3, 4)
		r := made(t, 0, 3, l)
		switch role {
		case api.Follower, api.Candidate:
			step(t, r, api.Msg{Kind: api.MsgAppend, From: 1, To: 0, Term: 4, Index: 6, LogTerm: 4, Commit: 5})
			ticks(r, 10*role)
		case api.Leader:
			r = elected(t, 0, 3, l)
			agree(t, r, 2, 7)
		}
		r.Take()
		s := r.Status()
		for _, index := range []uint64{0, 1, 3, s.Commit + 1, s.Last + 1, 1 << 63} {
			refuses(r, index, nil, api.ErrArg)
			refuses(r, index, long, api.ErrArg)
		}
		refuses(r, 4, long, api.ErrLong)
		want := r.Log()
		want.Snap, want.Entries = api.Snap{Index: 5, Term: 3, Data: long[1:]}, want.Entries[2:]
		if e := r.Compact(5, long[1:]); e != api.OK {
			t.Errorf("P8.3: Compact: %v", e)
		}
		has(t, r, want)
		s.First = 6
		is(t, r, s)
		sends(t, r)
		refuses(r, 4, nil, api.ErrArg)
		refuses(r, 5, nil, api.ErrArg)
		if list := r.Known(0); uint64(len(list)) != s.Commit-5 {
			t.Errorf("P8.1: Known behind Compact: %+v", list)
		}
		if e := r.Compact(s.Commit, nil); (e == api.OK) != (s.Commit > 5) {
			t.Errorf("P8.3: Compact up to Commit: %v", e)
		}
		if s.Commit == s.Last {
			has(t, r, api.Log{Hard: want.Hard, Snap: api.Snap{Index: s.Last, Term: s.Term}})
		}
	}
}

// P8.3: who lacks what the leader has no more is sent the snapshot, and all that is behind it.
func TestSnapshot(t *testing.T) {
	for i, l := range []api.Log{{}, logOf(2, 2), logOf(1, 1, 1), logOf(9, 1, 1, 2, 2, 3, 3, 3, 3, 3, 3, 3, 3), logOf(9, 1, 1, 2), snapped(9, 2, 1, 2)} {
		leader := elected(t, 0, 3, logOf(9, 1, 1, 2, 2, 2, 5))
		agree(t, leader, 2, 7)
		leader.Propose([]byte("x"))
		agree(t, leader, 2, 8)
		if e := leader.Compact(7, state(7)); e != api.OK {
			t.Fatal(e)
		}
		leader.Propose([]byte("y"))
		r := made(t, 1, 3, l)
		list := to(leader, 1)
		caught(t, leader, r, list)
		if a, b := leader.Log(), r.Log(); !sameEntries(a.Entries, b.Entries) || b.Snap.Index != 7 || b.Snap.Term != 10 || string(b.Snap.Data) != "s7" {
			t.Errorf("P8.3: the row %d: %+v; want %+v", i, b, a)
		}
		if s := r.Status(); s.Commit < 7 || s.Last != 9 {
			t.Errorf("P8.3: the row %d: %+v", i, s)
		}
		for _, m := range to(leader, 1) {
			if m.Kind == api.MsgSnap {
				t.Errorf("P8.3: the row %d: who has all is sent %+v", i, m)
			}
		}
	}
	// Who lacks nothing of it is sent none.
	leader, r := elected(t, 0, 3, logOf(9, 1, 1, 2)), made(t, 1, 3, logOf(9, 1, 1, 2))
	caught(t, leader, r, to(leader, 1))
	caught(t, leader, r, to(leader, 1))
	if e := leader.Compact(4, state(4)); e != api.OK {
		t.Fatal(e)
	}
	leader.Propose(nil)
	for _, m := range append(leader.Take(), to(leader, 1)...) {
		if m.Kind == api.MsgSnap && m.To == 1 {
			t.Errorf("P8.3: who has all is sent %+v", m)
		}
	}
}

// P8.3: a snapshot that gets lost, or is overtaken, is sent again.
func TestSnapshotLost(t *testing.T) {
	leader, r := elected(t, 0, 3, logOf(9, 1, 1, 2)), made(t, 1, 3, api.Log{})
	agree(t, leader, 2, 4)
	if e := leader.Compact(4, state(4)); e != api.OK {
		t.Fatal(e)
	}
	for range 5 {
		to(leader, 1)
		leader.Propose([]byte("x"))
		leader.Take()
	}
	list := to(leader, 1)
	for i := len(list) - 1; i > 0; i-- { // from the end on; the first one not at all
		answers(t, leader, r, list[i])
	}
	if s := r.Status(); s.Commit != 0 {
		t.Fatalf("P8.3: without the snapshot: %+v", s)
	}
	caught(t, leader, r, to(leader, 1))
	if a, b := leader.Log(), r.Log(); !sameEntries(a.Entries, b.Entries) || b.Snap.Index != 4 {
		t.Errorf("P8.3: %+v; want %+v", b, a)
	}
}

// P8.5: what was refused once too often is not sent again and again; what was overtaken is not sent at all.
func TestRefusedOften(t *testing.T) {
	leader, r := elected(t, 0, 3, logOf(9, 1, 1, 2)), made(t, 1, 3, logOf(9, 1))
	var list []api.Msg
	for k := range 200 {
		leader.Propose([]byte{byte(k)})
	}
	for _, m := range leader.Take() {
		if m.To == 1 {
			list = append(list, m)
		}
	}
	if n := caught(t, leader, r, list); n > 202 {
		t.Errorf("P8.5: for 200 messages that are refused %d go out", n-200)
	}
	if a, b := leader.Log(), r.Log(); !sameEntries(a.Entries, b.Entries) {
		t.Errorf("P8.2: %+v; want %+v", b, a)
	}
	step(t, leader, api.Msg{Kind: api.MsgAppendReply, From: 1, To: 0, Term: 10, Index: 1, Refused: true})
	sends(t, leader)
}

// R1: messages come to an end between nodes whose logs cannot be of one group, too.
func TestStrangeLogs(t *testing.T) {
	for i, l := range []api.Log{snapped(9, 3, 1), snapped(9, 3, 1, 1, 1, 1, 1, 1), snapped(9, 20, 7), logOf(9, 4, 4, 4, 5, 5, 5), snapped(9, 5, 5, 5)} {
		leader, r := elected(t, 0, 2, snapped(9, 3, 2, 5, 5, 6)), made(t, 1, 2, l)
		for range 5 {
			leader.Propose([]byte("x"))
			caught(t, leader, r, leader.Take())
			caught(t, leader, r, to(leader, 1))
		}
		if e := leader.Step(api.Msg{Kind: api.MsgAppendReply, From: 1, To: 0, Term: 10, Index: leader.Status().Last}); e != api.OK {
			t.Errorf("R1: the row %d: %v", i, e)
		}
		caught(t, leader, r, to(leader, 1))
	}
}
