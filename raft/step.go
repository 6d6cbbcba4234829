package raft

import (
	"armoire/api"
	"armoire/vault"
)

// Step takes a message.
func (r *Node) Step(m api.Msg) api.Errno {
	switch {
	case r.none():
		return api.ErrNil
	case m.Kind < api.MsgVote || m.Kind > api.MsgSnap || m.To != r.id || m.From < 0 || m.From >= r.n || m.From == r.id || m.Term == 0:
		return api.ErrArg
	}
	if m.Term > r.kept.Hard.Term {
		r.enter(m.Term)
	}
	r.read(m)
	return api.OK
}

// read leads a message to its reading. What an elder term asks falls to the refusal, by which who asked learns of this term; what it answers is of no use any more.
func (r *Node) read(m api.Msg) {
	elder := m.Term < r.kept.Hard.Term
	refusal := api.Msg{Kind: api.MsgVoteReply, To: m.From, Refused: true}
	switch {
	case m.Kind == api.MsgVoteReply && !elder && !m.Refused:
		r.counted(m.From)
	case m.Kind == api.MsgAppendReply && !elder:
		r.answered(m)
	case m.Kind == api.MsgVote && !elder:
		r.asked(m)
	case m.Kind == api.MsgAppend && !elder:
		r.follow(m)
	case m.Kind == api.MsgSnap && !elder:
		r.load(m)
	case m.Kind == api.MsgAppend, m.Kind == api.MsgSnap:
		refusal.Kind, refusal.Index = api.MsgAppendReply, r.commit
		fallthrough
	case m.Kind == api.MsgVote:
		r.send(refusal)
	}
}

// heard: a node leads in this term. Is it another one than this?
func (r *Node) heard(from int) bool {
	if r.role == api.Leader {
		return false
	}
	r.role, r.leader, r.ticks = api.Follower, from+1, 0
	return true
}

// follow takes the leader's entries, if they go on from what is here.
func (r *Node) follow(m api.Msg) {
	if !r.heard(m.From) || !goOn(m.Index, m.LogTerm, m.Term, m.Entries) {
		return
	}
	m = r.uncommitted(m)
	term, ok := r.termAt(m.Index)
	switch {
	case m.Index < r.commit:
		r.agree(m.From, r.commit)
	case ok && term == m.LogTerm:
		r.lay(m.Entries)
		same := m.Index + uint64(len(m.Entries))
		r.commit = max(r.commit, min(m.Commit, same))
		r.agree(m.From, same)
	case m.Index > r.commit: // never at Commit itself: no leader has another entry there
		r.send(api.Msg{Kind: api.MsgAppendReply, To: m.From, Refused: true, Index: r.before(m.Index, m.LogTerm)})
	}
}

// uncommitted is a message without those of its entries that are committed: they are here, or in the snapshot.
func (r *Node) uncommitted(m api.Msg) api.Msg {
	if m.Index >= r.commit || len(m.Entries) == 0 {
		return m
	}
	n := min(r.commit-m.Index, uint64(len(m.Entries)))
	m.Index, m.LogTerm = m.Entries[n-1].Index, m.Entries[n-1].Term
	m.Entries = m.Entries[n:]
	return m
}

// before is where a leader is to try that has another entry at an index above Commit: the last one ahead of it whose term may be the same there. Up to Commit all is the same.
func (r *Node) before(index, term uint64) uint64 {
	at := min(index-1, r.last())
	for at > r.commit {
		if is, _ := r.termAt(at); is <= term {
			break
		}
		at--
	}
	return at
}

// load takes the leader's snapshot, if it tells more than is known to be committed here.
func (r *Node) load(m api.Msg) {
	s := api.Snap{Index: m.Index, Term: m.LogTerm, Data: m.Data}
	if !r.heard(m.From) || !vault.Right(api.Log{Hard: api.Hard{Term: m.Term}, Snap: s}) {
		return
	}
	if s.Index > r.commit {
		// What goes on from it stays: the leader may count on it.
		var stay []api.Entry
		if term, ok := r.termAt(s.Index); ok && term == s.Term {
			stay = r.behind(s.Index)
		}
		r.replace(s, stay)
		r.commit = s.Index
	}
	r.agree(m.From, r.commit)
}

// agree tells the leader up to where both logs are the same.
func (r *Node) agree(to int, index uint64) {
	r.send(api.Msg{Kind: api.MsgAppendReply, To: to, Index: index})
}
