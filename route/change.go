package route

import (
	"math"
	"slices"

	"armoire/api"
)

// Next is the least group that may have entries, of so many, and has none; 0, if there is none.
func Next(r api.Routes, spare int) int {
	if !baseFits(r.Base) {
		return 0
	}
	for k := range min(spare, api.MaxSpare) {
		if group := r.Base + 1 + k; placeOf(r, group) < 0 {
			return group
		}
	}
	return 0
}

// Cut is r, and the keys of the group from at on are about to be another one's; with an error r as it was.
func Cut(r api.Routes, group int, at []byte) (api.Routes, api.Errno) {
	r = copied(r)
	place := placeOf(r, group)
	switch {
	case r.Moving != 0:
		return r, api.ErrState
	case place < 0:
		return r, api.ErrNone
	case !cuts(r, place, at):
		return r, api.ErrArg
	case r.Epoch == math.MaxInt:
		return r, api.ErrFull
	}
	r.Moving, r.Cut = group, slices.Clone(at)
	r.Epoch++
	return r, api.OK
}

// Moved is r, and the keys that were about to be another group's are that one's; with an error r as it was.
func Moved(r api.Routes, group int) (api.Routes, api.Errno) {
	r = copied(r)
	place := placeOf(r, r.Moving)
	switch {
	case r.Moving == 0:
		return r, api.ErrState
	case place < 0 || placeOf(r, group) >= 0 || !isSpare(r, group):
		return r, api.ErrArg
	case r.Epoch == math.MaxInt:
		return r, api.ErrFull
	}
	r.Spans = slices.Insert(r.Spans, place+1, api.Owner{Group: group, From: r.Cut})
	r.Moving, r.Cut = 0, nil
	r.Epoch++
	return r, api.OK
}

// copied is routes that share no memory with these.
func copied(r api.Routes) api.Routes {
	r.Spans = slices.Clone(r.Spans)
	for at := range r.Spans {
		r.Spans[at].From = slices.Clone(r.Spans[at].From)
	}
	r.Cut = slices.Clone(r.Cut)
	return r
}
