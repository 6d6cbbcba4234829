package raft

import (
	"bytes"
	"slices"

	"armoire/api"
)

// place is where a leader takes another node to be.
type place struct {
	same uint64 // up to where both logs are known to be the same
	next uint64 // behind this index begins what it is sent: same, or a guess above it
	sent bool   // it was sent that because it refused something, and nothing new is known since
}

// Propose puts an entry behind the log of who leads.
func (r *Node) Propose(data []byte) (uint64, api.Errno) {
	switch {
	case r.none():
		return 0, api.ErrNil
	case r.role != api.Leader:
		return 0, api.ErrLeader
	case len(data) > most:
		return 0, api.ErrLong
	}
	ahead := r.last()
	r.add(bytes.Clone(data))
	// The new entry alone: who lacks more refuses it, and says what.
	r.others(func(id int) { r.sendBehind(id, ahead) })
	return r.last(), api.OK
}

// lead: this candidate leads from now on. It cannot tell whether what elder terms left behind is committed, until an entry of its own term is: so it puts one there.
func (r *Node) lead() {
	r.role, r.leader = api.Leader, r.id+1
	for id := range r.peers {
		r.peers[id] = place{next: r.last()}
	}
	r.add(nil)
	r.sendAll()
}

// add puts an entry of this term behind the log. Of a group of one it is committed with that.
func (r *Node) add(data []byte) {
	r.kept.Entries = append(r.kept.Entries, api.Entry{Term: r.kept.Hard.Term, Index: r.last() + 1, Data: data})
	r.commitSame()
}

// sendAll sends each other node what it is not known to have.
func (r *Node) sendAll() {
	r.ticks = 0
	r.others(r.sendLacking)
}

// sendLacking sends a node what it is not known to have; where that begins with what is here no more, the snapshot ahead of it.
func (r *Node) sendLacking(id int) {
	s, p := r.kept.Snap, &r.peers[id]
	p.sent = false
	if p.next < s.Index {
		r.send(api.Msg{Kind: api.MsgSnap, To: id, Index: s.Index, LogTerm: s.Term, Data: bytes.Clone(s.Data)})
	}
	r.sendBehind(id, max(p.next, s.Index))
}

// sendBehind sends a node all entries behind an index that this log still tells.
func (r *Node) sendBehind(id int, index uint64) {
	term, _ := r.termAt(index)
	r.send(api.Msg{Kind: api.MsgAppend, To: id, Index: index, LogTerm: term, Entries: cloneEntries(r.behind(index)), Commit: r.commit})
}

// answered: a node tells up to where its log is the same, or where to try. An answer that is older than what is known tells nothing.
func (r *Node) answered(m api.Msg) {
	p := &r.peers[m.From]
	switch {
	case r.role != api.Leader || m.Index < p.same || m.Index > r.last():
		return
	case m.Refused && m.Index == p.next && p.sent:
		return // of all that was under way the first one that is refused is enough
	case m.Refused:
		p.next = m.Index
		r.sendLacking(m.From)
		p.sent = true
	case m.Index > p.same:
		*p = place{same: m.Index, next: m.Index}
		r.commitSame()
	}
}

// commitSame commits what a majority has, if it ends in this term: of an elder term's entry a majority is not enough, for a node without it may still come to lead.
func (r *Node) commitSame() {
	list := []uint64{r.last()}
	r.others(func(id int) { list = append(list, r.peers[id].same) })
	slices.Sort(list)
	index := list[(r.n-1)/2] // as many as are from here on are a majority
	if term, ok := r.termAt(index); ok && term == r.kept.Hard.Term {
		r.commit = max(r.commit, index)
	}
}
