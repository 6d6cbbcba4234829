package vault

import (
	"bytes"
	"slices"

	"armoire/api"
	"armoire/code"
)

const (
	fixed = 40 // bytes that a difference has at most beside entries and Data
	each  = 13 // bytes that it has at most for an entry, beside its Data
)

// longest is how many bytes a difference has at most that leads to a log, from whatever other one.
func longest(l api.Log) int {
	n := fixed + len(l.Snap.Data)
	for _, e := range l.Entries {
		n += each + len(e.Data)
	}
	return n
}

// difference is what is to be known of a log where another one is known: what a node never forgets, the snapshot, if it is another one, how many entries behind that stay, and those that come.
func difference(was, is api.Log) []byte {
	b := slices.Concat(code.Num(is.Hard.Term), code.Num(uint64(is.Hard.Vote)))
	if sameSnap(was.Snap, is.Snap) {
		b = append(b, code.Num(0)...)
	} else {
		b = slices.Concat(b, code.Num(1), code.Num(is.Snap.Index), code.Num(is.Snap.Term), code.Text(is.Snap.Data))
	}
	keep := alike(behind(was, is.Snap.Index), is.Entries)
	b = append(b, code.Num(uint64(keep))...)
	for _, e := range is.Entries[keep:] {
		b = append(b, code.Num(e.Term)...)
		b = append(b, code.Text(e.Data)...)
	}
	return b
}

// changed is the log to which a difference leads, and whether it leads to one that is right.
func changed(was api.Log, difference []byte) (api.Log, bool) {
	r := code.New(difference)
	is := api.Log{Snap: was.Snap}
	is.Hard.Term = r.Num()
	is.Hard.Vote = r.Small(api.MaxNodes)
	if r.Small(1) == 1 {
		is.Snap.Index = r.Num()
		is.Snap.Term = r.Num()
		is.Snap.Data = r.Text(most)
	}
	if !rightSnap(is) {
		return api.Log{}, false // no index is counted from one that is too great
	}
	stay := behind(was, is.Snap.Index)
	is.Entries = slices.Clone(stay[:r.Small(len(stay))])
	for r.Left() > 0 && r.Err() == api.OK {
		index := is.Snap.Index + uint64(len(is.Entries)) + 1
		is.Entries = append(is.Entries, api.Entry{Index: index, Term: r.Num(), Data: r.Text(most)})
	}
	if r.End() != api.OK || !Right(is) {
		return api.Log{}, false
	}
	return is, true
}

// behind is a log's entries behind an index.
func behind(l api.Log, index uint64) []api.Entry {
	if index <= l.Snap.Index {
		return l.Entries
	}
	return l.Entries[min(index-l.Snap.Index, uint64(len(l.Entries))):]
}

// alike is how many of the first entries are the same.
func alike(a, b []api.Entry) int {
	n := 0
	for n < min(len(a), len(b)) && sameEntry(a[n], b[n]) {
		n++
	}
	return n
}

// same: are two logs the same?
func same(a, b api.Log) bool {
	return a.Hard == b.Hard && sameSnap(a.Snap, b.Snap) && slices.EqualFunc(a.Entries, b.Entries, sameEntry)
}

func sameSnap(a, b api.Snap) bool {
	return a.Index == b.Index && a.Term == b.Term && bytes.Equal(a.Data, b.Data)
}

func sameEntry(a, b api.Entry) bool {
	return a.Index == b.Index && a.Term == b.Term && bytes.Equal(a.Data, b.Data)
}

// clone is a log that shares no memory with l.
func clone(l api.Log) api.Log {
	l.Snap.Data = bytes.Clone(l.Snap.Data)
	l.Entries = slices.Clone(l.Entries)
	for i := range l.Entries {
		l.Entries[i].Data = bytes.Clone(l.Entries[i].Data)
	}
	return l
}
