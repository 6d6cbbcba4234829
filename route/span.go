package route

import (
	"bytes"
	"slices"

	"armoire/api"
)

// begins: does the key begin with that mark?
func begins(key []byte, mark byte) bool {
	return len(key) > 0 && key[0] == mark
}

// marked is all keys that begin with that mark.
func marked(mark byte) api.Span {
	return api.Span{From: []byte{mark}, To: []byte{mark + 1}}
}

// keysAt is the keys of the group at a place of Spans; it shares their memory.
func keysAt(r api.Routes, at int) api.Span {
	s := marked(entryMark)
	s.From = r.Spans[at].From
	if at+1 < len(r.Spans) {
		s.To = r.Spans[at+1].From
	}
	return s
}

// both is the keys of s that are of t, too, which has an end; it shares their memory.
func both(s, t api.Span) api.Span {
	if bytes.Compare(s.From, t.From) > 0 {
		t.From = s.From
	}
	if len(s.To) > 0 && bytes.Compare(s.To, t.To) < 0 {
		t.To = s.To
	}
	return t
}

// has: is there a key in a span that has an end?
func has(s api.Span) bool {
	return bytes.Compare(s.From, s.To) < 0
}

// meets: is there a key of s that is of t, too, which has an end?
func meets(s, t api.Span) bool {
	return has(both(s, t))
}

// copiedSpan is a span that shares no memory with this one.
func copiedSpan(s api.Span) api.Span {
	return api.Span{From: slices.Clone(s.From), To: slices.Clone(s.To)}
}
