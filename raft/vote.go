package raft

import (
	"math"

	"armoire/api"
)

const (
	patience = 10 // ticks that the node 0 waits for a leader
	longer   = 3  // each next node waits so many more: who begins together with others does not do so again
	beat     = 3  // a leader sends to all when so many ticks are over
)

// Tick: time goes on.
func (r *Node) Tick() {
	if r.none() {
		return
	}
	r.ticks++
	switch {
	case r.role == api.Leader && r.ticks >= beat:
		r.sendAll()
	case r.role != api.Leader && r.ticks >= patience+longer*r.id:
		r.elect()
	}
}

// elect begins an election, unless there is no greater term.
func (r *Node) elect() {
	r.ticks = 0
	if r.kept.Hard.Term == math.MaxUint64 {
		return
	}
	r.kept.Hard = api.Hard{Term: r.kept.Hard.Term + 1, Vote: r.id + 1}
	r.role, r.leader = api.Candidate, 0
	r.votes = [api.MaxNodes]bool{}
	r.others(func(id int) {
		r.send(api.Msg{Kind: api.MsgVote, To: id, Index: r.last(), LogTerm: r.lastTerm()})
	})
	r.counted(r.id)
}

// enter: the node follows in a greater term, in which it has voted for nobody, and knows no leader.
func (r *Node) enter(term uint64) {
	if r.role == api.Leader {
		r.ticks = 0 // it has heard of a leader up to now: itself
	}
	r.kept.Hard = api.Hard{Term: term}
	r.role, r.leader = api.Follower, 0
}

// asked: a candidate of this term asks for a vote. It gets it, if no other one has it, and its log tells all that this one's does: so whoever leads knows all that is committed.
func (r *Node) asked(m api.Msg) {
	term := r.lastTerm()
	behind := m.LogTerm < term || m.LogTerm == term && m.Index < r.last()
	vote := m.From + 1
	if r.kept.Hard.Vote == 0 && !behind {
		r.kept.Hard.Vote = vote
		r.ticks = 0
	}
	r.send(api.Msg{Kind: api.MsgVoteReply, To: m.From, Refused: r.kept.Hard.Vote != vote})
}

// counted: a node has voted for this one in this term; told twice it counts once.
func (r *Node) counted(id int) {
	if r.role != api.Candidate {
		return
	}
	r.votes[id] = true
	n := 0
	for _, voted := range r.votes {
		if voted {
			n++
		}
	}
	if r.majority(n) {
		r.lead()
	}
}
