package raft_test

import (
	"math"
	"math/rand/v2"
	"testing"

	"armoire/api"
	"armoire/vault"
)

// someNumber is a small one, or one at a bound.
func someNumber(r *rand.Rand) uint64 {
	switch r.IntN(12) {
	case 0:
		return math.MaxUint64 - r.Uint64N(3)
	case 1:
		return 1<<62 - 1 + r.Uint64N(3)
	case 2:
		return 1<<63 - 1 + r.Uint64N(3)
	default:
		return r.Uint64N(8)
	}
}

// someMsg is any message, of which much may be that no node sends.
func someMsg(r *rand.Rand, n int) api.Msg {
	m := api.Msg{Kind: r.IntN(7), From: r.IntN(n+2) - 1, To: r.IntN(n+2) - 1, Term: r.Uint64N(6), Index: someNumber(r), LogTerm: r.Uint64N(6), Commit: someNumber(r), Refused: r.IntN(2) > 0}
	if r.IntN(300) == 0 {
		m.Term, m.LogTerm = someNumber(r), someNumber(r)
	}
	index, term := m.Index, m.LogTerm
	for range r.IntN(4) * r.IntN(3) {
		index++
		term += uint64(r.IntN(8) / 7)
		e := api.Entry{Term: term, Index: index, Data: make([]byte, r.IntN(3))}
		switch r.IntN(60) {
		case 0:
			e.Index = someNumber(r)
		case 1:
			e.Term = someNumber(r)
		case 2:
			e.Data = make([]byte, api.MaxRecord-99)
		}
		m.Entries = append(m.Entries, e)
	}
	switch r.IntN(30) {
	case 0:
		m.Data = make([]byte, api.MaxRecord-100+r.IntN(2))
	case 1:
		m.Data = []byte("s")
	}
	return m
}

// R1, R7: whatever messages come, no call panics, each ends, the log stays one that can be kept, and neither Term nor Commit falls.
func TestAnyMessages(t *testing.T) {
	starts := []api.Log{{}, logOf(3, 1, 1, 2, 3), snapped(3, 2, 1, 2, 3), snapped(1, 1<<62, 1, 1, 1), snapped(math.MaxUint64-2, 3, 1, 2), logOf(math.MaxUint64, 1)}
	for seed := range 600 {
		r := dice(uint64(seed))
		n := 1 + r.IntN(api.MaxNodes)
		id := r.IntN(n)
		node := made(t, id, n, starts[r.IntN(len(starts))])
		if l := starts[r.IntN(4)]; seed%2 > 0 {
			node = elected(t, id, n, l)
		}
		for range 200 {
			was := node.Status()
			m := someMsg(r, n)
			if r.IntN(5) > 0 {
				m.To = id
			}
			switch r.IntN(10) {
			case 0, 1:
				ticks(node, r.IntN(12))
			case 2:
				node.Propose([]byte("x"))
			case 3:
				node.Compact(someNumber(r), []byte("s"))
			case 4:
				node.Compact(was.Commit, []byte("s"))
			default:
				node.Step(m)
			}
			node.Take()
			node.Known(someNumber(r))
			s, l := node.Status(), node.Log()
			if !vault.Right(l) || s.Term < was.Term || s.Commit < was.Commit || s.Commit > s.Last || s.Commit < l.Snap.Index {
				t.Fatalf("R1: behind %+v: %+v; it was %+v; %+v", m, s, was, l)
			}
			made(t, id, n, l)
		}
	}
}

// P8.4 and R7: no entry is cut off that is known committed, whatever is told.
func TestCommittedStays(t *testing.T) {
	for seed := range 300 {
		r := dice(uint64(seed))
		node := made(t, 1, 3, logOf(1))
		step(t, node, api.Msg{Kind: api.MsgAppend, From: 0, To: 1, Term: 1, Entries: row(0, 1, 1, 1), Commit: 3})
		want := node.Known(0)
		for range 100 {
			m := someMsg(r, 3)
			m.To = 1
			if m.Kind != api.MsgSnap {
				node.Step(m)
			}
			if got := node.Known(0); len(got) < 3 || !sameEntries(got[:3], want) {
				t.Fatalf("P8.4: behind %+v: %+v", m, got)
			}
		}
	}
}

// P8.2: what Step refuses changes nothing, and is not answered.
func TestStepRefuses(t *testing.T) {
	good := api.Msg{Kind: api.MsgAppend, From: 2, To: 1, Term: 9, Entries: row(0, 9), Commit: 1}
	turns := map[string]func(*api.Msg){
		"no kind":           func(m *api.Msg) { m.Kind = 0 },
		"a kind below":      func(m *api.Msg) { m.Kind = -1 },
		"a kind above":      func(m *api.Msg) { m.Kind = 6 },
		"to another one":    func(m *api.Msg) { m.To = 0 },
		"to nobody":         func(m *api.Msg) { m.To = 7 },
		"from itself":       func(m *api.Msg) { m.From = 1 },
		"from outside":      func(m *api.Msg) { m.From = 3 },
		"from below":        func(m *api.Msg) { m.From = -1 },
		"from far outside":  func(m *api.Msg) { m.From = math.MaxInt },
		"from far below":    func(m *api.Msg) { m.From = math.MinInt },
		"without a term":    func(m *api.Msg) { m.Term = 0 },
		"to far outside":    func(m *api.Msg) { m.To = math.MinInt },
		"a kind far above":  func(m *api.Msg) { m.Kind = math.MaxInt },
		"a kind far below":  func(m *api.Msg) { m.Kind = math.MinInt },
		"to itself, for it": func(m *api.Msg) { m.From, m.To = 0, 0 },
	}
	for name, turn := range turns {
		r := made(t, 1, 3, logOf(3, 2))
		was := r.Log()
		m := good
		turn(&m)
		if e := r.Step(m); e != api.ErrArg {
			t.Errorf("P8.2: a message %s: %v", name, e)
		}
		is(t, r, api.Status{Term: 3, First: 1, Last: 1})
		has(t, r, was)
		sends(t, r)
	}
	alone := made(t, 0, 1, api.Log{})
	for from := -1; from < 6; from++ {
		m := good
		m.From, m.To = from, 0
		if e := alone.Step(m); e != api.ErrArg {
			t.Errorf("P8.2: a message to a group of one from %d: %v", from, e)
		}
	}
	r := made(t, 1, 3, logOf(3, 2))
	for _, kind := range []int{api.MsgVote, api.MsgVoteReply, api.MsgAppend, api.MsgAppendReply, api.MsgSnap} {
		step(t, r, api.Msg{Kind: kind, From: 2, To: 1, Term: 1})
	}
}

// R7: a term that is the greatest one is followed by none.
func TestGreatestTerm(t *testing.T) {
	for _, role := range []int{api.Follower, api.Candidate} {
		r := made(t, 1, 3, api.Log{Hard: api.Hard{Term: math.MaxUint64 - 1}})
		if role == api.Candidate {
			ticks(r, 13)
		} else {
			step(t, r, api.Msg{Kind: api.MsgVoteReply, From: 0, To: 1, Term: math.MaxUint64})
		}
		r.Take()
		was := r.Status()
		ticks(r, 100)
		if s := r.Status(); s != was || s.Term != math.MaxUint64 || s.Role != role {
			t.Errorf("R7: behind the greatest term: %+v; it was %+v", s, was)
		}
		sends(t, r)
	}
	r := elected(t, 0, 3, api.Log{Hard: api.Hard{Term: math.MaxUint64 - 1}})
	if at, e := r.Propose(nil); at != 2 || e != api.OK {
		t.Errorf("P8.3: Propose in the greatest term: %d, %v", at, e)
	}
}

// R7: at the greatest index of a snapshot, all goes on but that no greater one is taken.
func TestGreatestIndex(t *testing.T) {
	const far = 1 << 62
	r := made(t, 0, 1, snapped(1, far, 1))
	ticks(r, 10)
	is(t, r, api.Status{Role: api.Leader, Term: 2, Vote: 1, Leader: 1, Commit: far + 1, First: far + 1, Last: far + 1})
	if e := r.Compact(far+1, nil); e != api.ErrArg {
		t.Errorf("R7: Compact up to where no snapshot is right: %v", e)
	}
	if !vault.Right(r.Log()) {
		t.Error("R7: the log can not be kept")
	}
	r = made(t, 0, 1, snapped(1, far-1, 1))
	ticks(r, 10)
	if e := r.Compact(far, nil); e != api.OK {
		t.Errorf("P8.3: Compact up to the greatest index of a snapshot: %v", e)
	}
	r = made(t, 0, 3, api.Log{})
	step(t, r, api.Msg{Kind: api.MsgSnap, From: 1, To: 0, Term: 1, Index: far + 1, LogTerm: 1})
	is(t, r, api.Status{Term: 1, Leader: 2, First: 1})
	step(t, r, api.Msg{Kind: api.MsgSnap, From: 1, To: 0, Term: 1, Index: far, LogTerm: 1})
	is(t, r, api.Status{Term: 1, Leader: 2, Commit: far, First: far + 1, Last: far})
	c := crewOf(t, snapped(2, far, 1, 1, 2), snapped(2, far, 1), snapped(3, far, 1, 1))
	c.calm()
}
