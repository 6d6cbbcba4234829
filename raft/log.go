package raft

import (
	"bytes"
	"slices"

	"armoire/api"
)

const (
	most     = api.MaxRecord - 100 // bytes of an entry's Data, and of a snapshot's: chapter 7 has no more
	farthest = 1 << 62             // a snapshot's index: likewise
)

// first is the index of the first entry, or of the one that comes first.
func (r *Node) first() uint64 { return r.kept.Snap.Index + 1 }

// last is the index of the last entry, or the snapshot's.
func (r *Node) last() uint64 { return r.kept.Snap.Index + uint64(len(r.kept.Entries)) }

// termAt is the term of what is there at an index, if that is known.
func (r *Node) termAt(index uint64) (uint64, bool) {
	s := r.kept.Snap
	switch {
	case index < s.Index || index > r.last():
		return 0, false
	case index == s.Index:
		return s.Term, true
	}
	return r.kept.Entries[index-s.Index-1].Term, true
}

// lastTerm is the term of what is there last.
func (r *Node) lastTerm() uint64 {
	term, _ := r.termAt(r.last())
	return term
}

// behind is the entries behind an index, which is the snapshot's or a greater one, up to the last.
func (r *Node) behind(index uint64) []api.Entry {
	return r.kept.Entries[index-r.kept.Snap.Index:]
}

// lay puts entries into the log, behind what they go on from. What is there already stays, and all behind it: a message that was under way for long may tell less than is known by now. Only where another term stands the log is cut off.
func (r *Node) lay(list []api.Entry) {
	for i, e := range list {
		if term, ok := r.termAt(e.Index); ok && term == e.Term {
			continue
		}
		stay := int(e.Index - r.first())
		r.kept.Entries = slices.Delete(r.kept.Entries, stay, len(r.kept.Entries))
		r.kept.Entries = append(r.kept.Entries, cloneEntries(list[i:])...)
		return
	}
}

// goOn: do entries go on from an index and its term one by one, as those of a right log, in terms up to a newest one?
func goOn(index, term, newest uint64, list []api.Entry) bool {
	term = max(term, 1)
	for _, e := range list {
		if e.Index == 0 || e.Index-1 != index || e.Term < term || e.Term > newest || len(e.Data) > most {
			return false
		}
		index, term = e.Index, e.Term
	}
	return true
}

// cloneLog is a log that shares no memory with l.
func cloneLog(l api.Log) api.Log {
	return api.Log{Hard: l.Hard, Snap: cloneSnap(l.Snap), Entries: cloneEntries(l.Entries)}
}

func cloneSnap(s api.Snap) api.Snap {
	s.Data = bytes.Clone(s.Data)
	return s
}

// copied is a list of its own, which holds the memory of no other one, even if it is empty.
func copied(list []api.Entry) []api.Entry { return append([]api.Entry(nil), list...) }

func cloneEntries(list []api.Entry) []api.Entry {
	list = copied(list)
	for i := range list {
		list[i].Data = bytes.Clone(list[i].Data)
	}
	return list
}
