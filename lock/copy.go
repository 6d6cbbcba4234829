package lock

import (
	"bytes"

	"armoire/api"
)

// copied is a lock that shares no memory with this one.
func copied(h api.Held) api.Held {
	return api.Held{Txn: h.Txn, Keys: each(h.Keys, bytes.Clone), Spans: each(h.Spans, copiedSpan), Writes: each(h.Writes, copiedWrite)}
}

func copiedSpan(s api.Span) api.Span {
	return api.Span{From: bytes.Clone(s.From), To: bytes.Clone(s.To)}
}

func copiedWrite(w api.Write) api.Write {
	return api.Write{Key: bytes.Clone(w.Key), Value: bytes.Clone(w.Value), Drop: w.Drop}
}

// each is a new list of what f makes of each of l; nil of none.
func each[T, U any](l []T, f func(T) U) []U {
	var out []U
	for _, v := range l {
		out = append(out, f(v))
	}
	return out
}
