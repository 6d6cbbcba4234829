package route

import (
	"bytes"
	"slices"

	"armoire/api"
)

// Right: may routes be so?
func Right(r api.Routes) bool {
	return r.Epoch >= 0 && baseFits(r.Base) && spansFit(r) && moveFits(r)
}

// baseFits: may there be so many base groups?
func baseFits(base int) bool {
	return base >= 1 && base <= api.MaxBase
}

// isBase: is it a base group?
func isBase(r api.Routes, group int) bool {
	return baseFits(r.Base) && group >= 1 && group <= r.Base
}

// isSpare: may the group have entries?
func isSpare(r api.Routes, group int) bool {
	return baseFits(r.Base) && group > r.Base && group <= r.Base+api.MaxSpare
}

// placeOf is the place in Spans of a group; -1, if it is none of these.
func placeOf(r api.Routes, group int) int {
	return slices.IndexFunc(r.Spans, func(o api.Owner) bool { return o.Group == group })
}

// spansFit: may Spans be so, if Base may be so?
func spansFit(r api.Routes) bool {
	if len(r.Spans) < 1 || len(r.Spans) > api.MaxSpare || !bytes.Equal(r.Spans[0].From, []byte{entryMark}) {
		return false
	}
	for at, o := range r.Spans {
		if !isSpare(r, o.Group) || placeOf(r, o.Group) != at {
			return false
		}
		if !begins(o.From, entryMark) || len(o.From) > api.MaxKey {
			return false
		}
		if at > 0 && bytes.Compare(r.Spans[at-1].From, o.From) >= 0 {
			return false
		}
	}
	return true
}

// moveFits: may Moving and Cut be so, if Spans may be so?
func moveFits(r api.Routes) bool {
	if r.Moving == 0 {
		return len(r.Cut) == 0
	}
	at := placeOf(r, r.Moving)
	return at >= 0 && cuts(r, at, r.Cut)
}

// cuts: may the keys of the group at a place of Spans be cut at that key? Something must be ahead of it.
func cuts(r api.Routes, at int, key []byte) bool {
	s := keysAt(r, at)
	return len(key) <= api.MaxKey && bytes.Compare(s.From, key) < 0 && bytes.Compare(key, s.To) < 0
}
