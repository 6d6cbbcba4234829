package lock

import (
	"bytes"
	"slices"

	"armoire/api"
)

// either: do two meet, by what is to be seen from the one, or from the other?
func either[T any](a, b T, seen func(a, b T) bool) bool {
	return seen(a, b) || seen(b, a)
}

// disturb: does one of two locks write a key that the other one reads or writes?
func disturb(a, b api.Held) bool {
	return either(a, b, func(a, b api.Held) bool {
		return slices.ContainsFunc(a.Writes, func(w api.Write) bool { return touches(b, alone(w.Key)) })
	})
}

// meet: do both spans have some key? If so, they have the first one of that span which begins last.
func meet(s, t api.Span) bool {
	return either(s, t, func(s, t api.Span) bool { return within(s, s.From) && within(t, s.From) })
}

// touches: does the lock write or read a key of the span?
func touches(h api.Held, s api.Span) bool { return writes(h, s) || reads(h, s) }

// writes: does the lock write a key of the span?
func writes(h api.Held, s api.Span) bool {
	return slices.ContainsFunc(h.Writes, func(w api.Write) bool { return within(s, w.Key) })
}

// reads: does the lock read a key of the span?
func reads(h api.Held, s api.Span) bool {
	return slices.ContainsFunc(h.Keys, func(key []byte) bool { return within(s, key) }) ||
		slices.ContainsFunc(h.Spans, func(r api.Span) bool { return meet(r, s) })
}

// within: is the key of the span? One whose To is not above its From has none.
func within(s api.Span, key []byte) bool {
	return bytes.Compare(s.From, key) <= 0 && (len(s.To) == 0 || bytes.Compare(key, s.To) < 0)
}

// alone is the span that has one key: there is none between a key and that key with a 0 behind it.
func alone(key []byte) api.Span {
	return api.Span{From: key, To: slices.Concat(key, []byte{0})}
}
