package vault

import "armoire/api"

const (
	most     = api.MaxRecord - 100 // bytes of an entry's Data, and of a snapshot's
	farthest = 1 << 62             // of a snapshot's Index: no entry's goes round
)

// Right: is a log as a node's can be?
func Right(l api.Log) bool {
	return l.Hard.Vote >= 0 && l.Hard.Vote <= api.MaxNodes && rightSnap(l) && rightEntries(l)
}

// rightSnap: may the snapshot be so?
func rightSnap(l api.Log) bool {
	s := l.Snap
	return s.Index <= farthest && s.Term <= l.Hard.Term && (s.Index == 0) == (s.Term == 0) && len(s.Data) <= most
}

// rightEntries: do the entries go on from the snapshot, one by one, in terms that were?
func rightEntries(l api.Log) bool {
	index, term := l.Snap.Index, max(l.Snap.Term, 1)
	for _, e := range l.Entries {
		index++
		if e.Index != index || e.Term < term || e.Term > l.Hard.Term || len(e.Data) > most {
			return false
		}
		term = e.Term
	}
	return true
}
