package code

import (
	"bytes"
	"math"

	"armoire/api"
)

const (
	bits    = 7         // of a number, in each of its bytes
	more    = 1 << bits // set, if another byte of the number is behind this one
	longest = 10        // bytes that 64 bits may need
)

// Reader takes numbers and texts from the beginning of its bytes, one by one, up to the first fault.
type Reader struct {
	rest []byte
	err  api.Errno
}

// New: a reader of a copy of b.
func New(b []byte) *Reader {
	return &Reader{rest: bytes.Clone(b)}
}

// Num: the next number.
func (r *Reader) Num() uint64 {
	v, size := r.look(math.MaxUint64)
	r.pass(size)
	return v
}

// Int: the next number, as Int writes it.
func (r *Reader) Int() int64 {
	v := r.Num()
	half := int64(v >> 1) // 63 bits: it has a place
	if v&1 == 1 {
		return ^half
	}
	return half
}

// Small: the next number, which is most at most.
func (r *Reader) Small(most int) int {
	v, size := r.look(bound(most))
	r.pass(size)
	return int(v) // no more than most, which is an int
}

// Text: the next text, of most bytes at most.
func (r *Reader) Text(most int) []byte {
	v, size := r.look(bound(most))
	if size == 0 {
		return nil
	}
	if v > uint64(len(r.rest)-size) {
		// The place stays ahead of the length: it belongs to the text.
		r.err = api.ErrShort
		return nil
	}
	r.pass(size)
	out := bytes.Clone(r.rest[:v])
	r.pass(len(out))
	return out
}

// Left: how many bytes are behind its place.
func (r *Reader) Left() int {
	if r == nil {
		return 0
	}
	return len(r.rest)
}

// Err: the first fault.
func (r *Reader) Err() api.Errno {
	if r == nil {
		return api.ErrNil
	}
	return r.err
}

// End: the first fault; what is left counts as one.
func (r *Reader) End() api.Errno {
	if e := r.Err(); e != api.OK {
		return e
	}
	if r.Left() > 0 {
		return api.ErrForm
	}
	return api.OK
}

// look: the next number, and how many bytes it has, but none where there is a fault; the place stays.
func (r *Reader) look(most uint64) (uint64, int) {
	if r.Err() != api.OK {
		return 0, 0
	}
	v, size, e := first(r.rest)
	if e == api.OK && v > most {
		e = api.ErrForm
	}
	if e != api.OK {
		r.err = e
		return 0, 0
	}
	return v, size
}

// pass: the place goes on by size bytes. look answers none for a nil reader, too: it is not touched then.
func (r *Reader) pass(size int) {
	if size > 0 {
		r.rest = r.rest[size:]
	}
}

// first: the number at the beginning of b, and how many bytes it has.
func first(b []byte) (uint64, int, api.Errno) {
	var v uint64
	for i, c := range b {
		if i == longest-1 && c > 1 {
			// 63 bits are in the bytes ahead; no byte behind can mend it.
			return 0, 0, api.ErrForm
		}
		v |= uint64(c&^more) << (bits * i)
		if c >= more {
			continue
		}
		if c == 0 && i > 0 {
			return 0, 0, api.ErrForm
		}
		return v, i + 1, api.OK
	}
	return 0, 0, api.ErrShort
}

// bound: most as a number that others are held against.
func bound(most int) uint64 {
	return uint64(max(most, 0))
}
