package raft_test

import (
	"testing"

	"armoire/api"
	"armoire/raft"
)

// patience is how many ticks a node waits, as P8.2 has it.
func patience(id int) int { return 10 + 3*id }

// P8.2: who hears of nobody begins an election when its patience is over, and another one when it is over again.
func TestPatience(t *testing.T) {
	for id := range 5 {
		r := made(t, id, 5, logOf(6, 2, 4, 4))
		for term := uint64(7); term < 10; term++ {
			was := r.Status()
			ticks(r, patience(id)-1)
			is(t, r, was)
			sends(t, r)
			r.Tick()
			is(t, r, api.Status{Role: api.Candidate, Term: term, Vote: id + 1, First: 1, Last: 3})
			var want []api.Msg
			for to := range 5 {
				if to != id {
					want = append(want, api.Msg{Kind: api.MsgVote, From: id, To: to, Term: term, Index: 3, LogTerm: 4})
				}
			}
			sends(t, r, want...)
		}
	}
	r := made(t, 0, 2, snapped(3, 8, 2))
	ticks(r, 10)
	sends(t, r, api.Msg{Kind: api.MsgVote, From: 0, To: 1, Term: 4, Index: 8, LogTerm: 2})
	r = made(t, 1, 2, api.Log{})
	ticks(r, 13)
	sends(t, r, api.Msg{Kind: api.MsgVote, From: 1, To: 0, Term: 1})
}

// P8.2: what makes a node wait anew, and what does not.
func TestWaitsAnew(t *testing.T) {
	for _, c := range []struct {
		name string
		m    api.Msg
		anew bool
	}{
		{"a leader's entries", api.Msg{Kind: api.MsgAppend, Term: 3, Index: 1, LogTerm: 2, Entries: row(1, 3)}, true},
		{"a leader's message without entries", api.Msg{Kind: api.MsgAppend, Term: 3, Index: 1, LogTerm: 2}, true},
		{"one that is refused", api.Msg{Kind: api.MsgAppend, Term: 3, Index: 4, LogTerm: 3}, true},
		{"one of a higher term", api.Msg{Kind: api.MsgAppend, Term: 4, Index: 1, LogTerm: 2}, true},
		{"a leader's snapshot", api.Msg{Kind: api.MsgSnap, Term: 3, Index: 4, LogTerm: 2, Data: state(4)}, true},
		{"a vote that is given", api.Msg{Kind: api.MsgVote, Term: 4, Index: 1, LogTerm: 2}, true},
		{"a vote that is given in its own term", api.Msg{Kind: api.MsgVote, Term: 3, Index: 1, LogTerm: 2}, true},
		{"a vote that is refused", api.Msg{Kind: api.MsgVote, Term: 4, Index: 1, LogTerm: 1}, false},
		{"an elder leader's entries", api.Msg{Kind: api.MsgAppend, Term: 2, Index: 1, LogTerm: 2, Entries: row(1, 2)}, false},
		{"an elder leader's snapshot", api.Msg{Kind: api.MsgSnap, Term: 2, Index: 4, LogTerm: 2}, false},
		{"an elder candidate", api.Msg{Kind: api.MsgVote, Term: 2, Index: 1, LogTerm: 2}, false},
		{"an answer", api.Msg{Kind: api.MsgVoteReply, Term: 3}, false},
		{"an answer of a higher term", api.Msg{Kind: api.MsgAppendReply, Term: 4, Refused: true}, false},
	} {
		r := made(t, 1, 3, logOf(3, 2))
		ticks(r, 12)
		c.m.From, c.m.To = 2, 1
		step(t, r, c.m)
		term := r.Status().Term
		r.Tick()
		if begun := r.Status().Role == api.Candidate; begun == c.anew {
			t.Errorf("P8.2: behind %s: begun at the next tick: %v", c.name, begun)
		}
		if ticks(r, 11); c.anew && r.Status().Role != api.Follower {
			t.Errorf("P8.2: behind %s it waits 12 ticks", c.name)
		}
		if r.Tick(); c.anew && (r.Status().Role != api.Candidate || r.Status().Term != term+1) {
			t.Errorf("P8.2: behind %s it waits more than 13 ticks", c.name)
		}
	}
}

// P8.2: a candidate waits from its election on; who led waits from when it did last.
func TestWaitsFrom(t *testing.T) {
	r := made(t, 0, 3, api.Log{})
	ticks(r, 10)
	step(t, r, api.Msg{Kind: api.MsgVoteReply, From: 1, To: 0, Term: 2, Refused: true})
	ticks(r, 9)
	is(t, r, api.Status{Term: 2, First: 1})
	r.Tick()
	is(t, r, api.Status{Role: api.Candidate, Term: 3, Vote: 1, First: 1})
	r = elected(t, 0, 3, api.Log{})
	ticks(r, 8)
	step(t, r, api.Msg{Kind: api.MsgAppendReply, From: 1, To: 0, Term: 5, Refused: true})
	ticks(r, 9)
	is(t, r, api.Status{Term: 5, First: 1, Last: 1})
	r.Tick()
	is(t, r, api.Status{Role: api.Candidate, Term: 6, Vote: 1, First: 1, Last: 1})
}

// P8.2: who gets a vote.
func TestVotes(t *testing.T) {
	for i, c := range []struct {
		vote        int
		term        uint64
		index, last uint64
		given       bool
	}{
		{0, 5, 3, 4, true}, {0, 5, 4, 4, true}, {0, 5, 1, 5, true}, {0, 5, 2, 4, false}, {0, 5, 9, 3, false}, {0, 5, 0, 0, false},
		{3, 5, 3, 4, true}, {3, 5, 9, 9, true}, {1, 5, 3, 4, false}, {2, 5, 3, 4, false}, {1, 6, 3, 4, true}, {2, 6, 3, 4, true}, {1, 6, 2, 4, false},
		{0, 4, 3, 4, false}, {3, 4, 3, 4, false},
	} {
		l := logOf(5, 1, 4, 4)
		l.Hard.Vote = c.vote
		r := made(t, 1, 3, l)
		step(t, r, api.Msg{Kind: api.MsgVote, From: 2, To: 1, Term: c.term, Index: c.index, LogTerm: c.last})
		term, vote := max(c.term, 5), c.vote
		if c.given {
			vote = 3
		} else if c.term > 5 {
			vote = 0
		}
		t.Logf("the row %d", i)
		is(t, r, api.Status{Term: term, Vote: vote, First: 1, Last: 3})
		sends(t, r, api.Msg{Kind: api.MsgVoteReply, From: 1, To: 2, Term: term, Refused: !c.given})
	}
}

// P8.4: one vote in a term, even where it is begun anew; the same candidate is told the same again.
func TestOneVote(t *testing.T) {
	r := made(t, 1, 3, api.Log{})
	for _, from := range []int{0, 2, 0, 2} {
		step(t, r, api.Msg{Kind: api.MsgVote, From: from, To: 1, Term: 1})
		sends(t, r, api.Msg{Kind: api.MsgVoteReply, From: 1, To: from, Term: 1, Refused: from == 2})
		is(t, r, api.Status{Term: 1, Vote: 1, First: 1})
		r = made(t, 1, 3, r.Log())
	}
	// Of a candidate, and of who leads, the vote is its own.
	r = made(t, 0, 3, api.Log{})
	ticks(r, 10)
	r.Take()
	ask := api.Msg{Kind: api.MsgVote, From: 1, To: 0, Term: 1, Index: 9, LogTerm: 1}
	no := api.Msg{Kind: api.MsgVoteReply, From: 0, To: 1, Term: 1, Refused: true}
	step(t, r, ask)
	sends(t, r, no)
	step(t, r, api.Msg{Kind: api.MsgVoteReply, From: 2, To: 0, Term: 1})
	r.Take()
	step(t, r, ask)
	sends(t, r, no)
	r = made(t, 0, 3, r.Log())
	step(t, r, ask)
	sends(t, r, no)
	is(t, r, api.Status{Term: 1, Vote: 1, First: 1, Last: 1})
}

// P8.2: with just a majority of votes, each node's told once, a candidate leads, and puts an entry without Data behind its log.
func TestElection(t *testing.T) {
	for n := 2; n <= api.MaxNodes; n++ {
		r := made(t, 1, n, logOf(4, 1, 3))
		ticks(r, 13)
		r.Take()
		vote := func(m api.Msg) {
			m.Kind, m.To = api.MsgVoteReply, 1
			step(t, r, m)
		}
		votes := 1
		for from := range n {
			if from == 1 {
				continue
			}
			vote(api.Msg{From: from, Term: 5, Refused: true})
			vote(api.Msg{From: from, Term: 4})
			if votes++; votes <= n/2 {
				vote(api.Msg{From: from, Term: 5})
				vote(api.Msg{From: from, Term: 5})
				vote(api.Msg{From: from, Term: 5, Refused: true})
			}
			is(t, r, api.Status{Role: api.Candidate, Term: 5, Vote: 2, First: 1, Last: 2})
			sends(t, r)
			if votes <= n/2 {
				continue
			}
			vote(api.Msg{From: from, Term: 5})
			is(t, r, api.Status{Role: api.Leader, Term: 5, Vote: 2, Leader: 2, First: 1, Last: 3})
			has(t, r, api.Log{Hard: api.Hard{Term: 5, Vote: 2}, Entries: append(row(0, 1, 3), api.Entry{Term: 5, Index: 3})})
			reaches(t, r, 1, n, 3)
			break
		}
	}
}

// reaches: a leader's messages are to bring all others, who have its log up to the last entry but one, up to an index.
func reaches(t *testing.T, r *raft.Node, id, n int, index uint64) {
	t.Helper()
	s := r.Status()
	told := map[int]bool{}
	for _, m := range r.Take() {
		if m.Kind == api.MsgAppend && m.From == id && m.Term == s.Term && m.Index+uint64(len(m.Entries)) >= index {
			told[m.To] = true
		}
	}
	if len(told) != n-1 || told[id] {
		t.Fatalf("P8.2: the leader %d of %d tells %v", id, n, told)
	}
}

// P8.2: of a group of one: it leads when its patience is over, and what it proposes is committed at once.
func TestAlone(t *testing.T) {
	r := made(t, 0, 1, logOf(4, 1, 3))
	ticks(r, 9)
	is(t, r, api.Status{Term: 4, First: 1, Last: 2})
	ticks(r, 1)
	is(t, r, api.Status{Role: api.Leader, Term: 5, Vote: 1, Leader: 1, Commit: 3, First: 1, Last: 3})
	for k := uint64(4); k < 8; k++ {
		if at, e := r.Propose([]byte{'x'}); at != k || e != api.OK || r.Status().Commit != k {
			t.Fatalf("P8.3: Propose: %d, %v; %+v", at, e, r.Status())
		}
	}
	ticks(r, 50)
	is(t, r, api.Status{Role: api.Leader, Term: 5, Vote: 1, Leader: 1, Commit: 7, First: 1, Last: 7})
	sends(t, r)
}

// P8.2: in any three ticks a leader sends all others what they are not known to have, or none.
func TestBeats(t *testing.T) {
	for n := 2; n <= api.MaxNodes; n++ {
		r := elected(t, 0, n, logOf(2, 1))
		for k := range 9 {
			if k%2 == 1 {
				r.Propose([]byte("x"))
				r.Take()
			}
			if k%3 == 2 {
				for from := 1; from < n; from++ {
					step(t, r, api.Msg{Kind: api.MsgAppendReply, From: from, To: 0, Term: 3, Index: r.Status().Last})
				}
				if r.Status().Commit != r.Status().Last {
					t.Fatalf("P8.2: all have all: %+v", r.Status())
				}
				r.Take()
			}
			was := r.Log()
			for from := 1; from < n; from++ { // what has nothing to do with it
				step(t, r, api.Msg{Kind: api.MsgVote, From: from, To: 0, Term: 2})
				step(t, r, api.Msg{Kind: api.MsgVoteReply, From: from, To: 0, Term: 3})
			}
			r.Take()
			ticks(r, 3)
			reaches(t, r, 0, n, r.Status().Last)
			has(t, r, was)
		}
		if s := r.Status(); s.Role != api.Leader || s.Term != 3 {
			t.Errorf("P8.2: a leader goes on leading, if nobody tells it else: %+v", s)
		}
	}
}

// inRole: the node 0 of 3 in the term 5, in that role, its messages taken.
func inRole(t *testing.T, role int) *raft.Node {
	t.Helper()
	l := logOf(4, 1, 3)
	if role == api.Leader {
		return elected(t, 0, 3, l)
	}
	r := made(t, 0, 3, l)
	if role == api.Candidate {
		ticks(r, 10)
	} else {
		step(t, r, api.Msg{Kind: api.MsgAppend, From: 2, To: 0, Term: 5, Index: 2, LogTerm: 3})
	}
	r.Take()
	if s := r.Status(); s.Role != role || s.Term != 5 {
		t.Fatalf("P8.2: %+v", s)
	}
	return r
}

// P8.2: a message of a higher term makes whoever takes it a follower of that term.
func TestHigherTerm(t *testing.T) {
	for role := api.Follower; role <= api.Leader; role++ {
		for kind := api.MsgVote; kind <= api.MsgSnap; kind++ {
			r := inRole(t, role)
			was := r.Log()
			step(t, r, api.Msg{Kind: kind, From: 1, To: 0, Term: 6, Index: 1, LogTerm: 1})
			leader := 0
			if kind == api.MsgAppend || kind == api.MsgSnap {
				leader = 2
			}
			got := r.Status()
			if got.Role != api.Follower || got.Term != 6 || got.Vote != 0 || got.Leader != leader {
				t.Errorf("P8.2: the kind %d in the role %d: %+v", kind, role, got)
			}
			if l := r.Log(); kind != api.MsgSnap && !sameEntries(l.Entries, was.Entries) {
				t.Errorf("P8.2: the kind %d in the role %d: %+v", kind, role, l)
			}
			if _, e := r.Propose(nil); e != api.ErrLeader {
				t.Errorf("P8.3: Propose behind a higher term: %v", e)
			}
		}
	}
}

// P8.2: a message of a lower term changes nothing; who asks something is told of this one.
func TestLowerTerm(t *testing.T) {
	for role := api.Follower; role <= api.Leader; role++ {
		for kind := api.MsgVote; kind <= api.MsgSnap; kind++ {
			for _, refused := range []bool{false, true} {
				r := inRole(t, role)
				was, l := r.Status(), r.Log()
				step(t, r, api.Msg{Kind: kind, From: 1, To: 0, Term: 4, Index: 2, LogTerm: 3, Refused: refused, Entries: row(2, 4, 4), Commit: 4, Data: state(2)})
				is(t, r, was)
				has(t, r, l)
				answer := map[int]int{api.MsgVote: api.MsgVoteReply, api.MsgAppend: api.MsgAppendReply, api.MsgSnap: api.MsgAppendReply}[kind]
				if answer == 0 {
					sends(t, r)
				} else {
					sends(t, r, api.Msg{Kind: answer, From: 0, To: 1, Term: 5, Refused: true})
				}
			}
		}
	}
}

// P8.2: a leader of its own term makes a candidate follow.
func TestCandidateFollows(t *testing.T) {
	for _, m := range []api.Msg{{Kind: api.MsgAppend, Index: 9, LogTerm: 5}, {Kind: api.MsgSnap, Index: 3, LogTerm: 4, Data: state(3)}} {
		r := inRole(t, api.Candidate)
		m.From, m.Term = 2, 5
		step(t, r, m)
		if s := r.Status(); s.Role != api.Follower || s.Term != 5 || s.Leader != 3 || s.Vote != 1 {
			t.Errorf("P8.2: a candidate behind the kind %d: %+v", m.Kind, s)
		}
		step(t, r, api.Msg{Kind: api.MsgVoteReply, From: 1, To: 0, Term: 5})
		if s := r.Status(); s.Role != api.Follower {
			t.Errorf("P8.2: a vote makes who follows a leader: %+v", s)
		}
	}
}
