package tuple

import (
	"armoire/api"
)

// A byte 00 in a text has a mark behind it, and so has a text's end. The end's mark is the least that may follow, so that a text stands ahead of all that it begins.
const (
	zero   = 0x00
	isEnd  = 0x01
	isZero = 0xff
)

// An Int's bytes behind its kind's; with the sign's bit turned, they are in the numbers' order.
const (
	intBytes = 8
	sign     = 1 << 63
)

// Enc: the bytes of the values, one behind the other.
func Enc(l []api.Value) ([]byte, api.Errno) {
	for _, v := range l {
		if !Right(v) {
			return nil, api.ErrForm
		}
	}
	if len(l) > most {
		return nil, api.ErrLong
	}
	var b []byte
	for _, v := range l {
		b = put(b, v)
	}
	return b, api.OK
}

// put: b with the bytes of a right value behind it.
func put(b []byte, v api.Value) []byte {
	b = append(b, kindByte(v.Kind))
	switch v.Kind {
	case api.Int:
		return putInt(b, v.I)
	case api.Text:
		return putText(b, v.S)
	}
	return b
}

// kindByte: each kind's byte is one above that of the kind ahead of it, as the order asks; 0, if it is no kind.
func kindByte(kind int) byte {
	var c byte
	switch kind {
	case api.Text:
		c++
		fallthrough
	case api.Int:
		c++
		fallthrough
	case api.Null:
		c++
	}
	return c
}

func putInt(b []byte, i int64) []byte {
	u := uint64(i) ^ sign
	for left := intBytes - 1; left >= 0; left-- {
		b = append(b, byte(u>>(8*left)))
	}
	return b
}

func putText(b []byte, s string) []byte {
	for i := range len(s) {
		b = append(b, s[i])
		if s[i] == zero {
			b = append(b, isZero)
		}
	}
	return append(b, zero, isEnd)
}

// Dec: the values that all of b is, and len(b).
func Dec(b []byte) ([]api.Value, int, api.Errno) {
	var l []api.Value
	count := 0
	for at := 0; at < len(b); count++ {
		v, n, e := take(b[at:])
		if e != api.OK {
			return nil, 0, e
		}
		at += n
		if count < most { // more are read, but not kept: a fault behind them counts first
			l = append(l, v)
		}
	}
	if count > most {
		return nil, 0, api.ErrLong
	}
	return l, len(b), api.OK
}

// take: the value that b, which has a byte at least, begins with, and how many bytes it has.
func take(b []byte) (api.Value, int, api.Errno) {
	switch b[0] {
	case kindByte(api.Null):
		return api.Value{Kind: api.Null}, 1, api.OK
	case kindByte(api.Int):
		i, e := takeInt(b[1:])
		return api.Value{Kind: api.Int, I: i}, 1 + intBytes, e
	case kindByte(api.Text):
		s, n, e := takeText(b[1:])
		return api.Value{Kind: api.Text, S: s}, 1 + n, e
	}
	return api.Value{}, 0, api.ErrForm
}

func takeInt(b []byte) (int64, api.Errno) {
	if len(b) < intBytes {
		return 0, api.ErrShort
	}
	var u uint64
	for _, c := range b[:intBytes] {
		u = u<<8 | uint64(c)
	}
	return int64(u ^ sign), api.OK
}

// takeText: the text, and how many bytes it has with its end.
func takeText(b []byte) (string, int, api.Errno) {
	var s []byte
	for at := 0; at < len(b); at++ {
		c := b[at]
		if c == zero {
			at++
			switch {
			case at == len(b):
				return "", 0, api.ErrShort
			case b[at] == isEnd:
				return string(s), at + 1, api.OK
			case b[at] != isZero:
				return "", 0, api.ErrForm
			}
		}
		s = append(s, c)
		if len(s) > api.MaxText {
			return "", 0, api.ErrForm
		}
	}
	return "", 0, api.ErrShort
}
