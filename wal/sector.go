package wal

import "armoire/api"

const (
	word = 8                 // bytes of a number
	room = api.Sector - word // bytes of a sector that stand ahead of its number
)

// little is a number's bytes, the lowest one first: if its write is torn over a lower number, what is left is lower than it, too, or all of it. So no number ever stands on a disk ahead of its time.
func little(n uint64) []byte {
	b := make([]byte, word)
	for i := range b {
		b[i] = byte(n >> (8 * i))
	}
	return b
}

// great is the number that the first bytes are.
func great(b []byte) uint64 {
	n := uint64(0)
	for i, x := range b[:word] {
		n |= uint64(x) << (8 * i)
	}
	return n
}

// sealed is a sector with its number at the end, where it comes to the disk last.
func sealed(body []byte, number uint64) []byte {
	b := make([]byte, room, api.Sector)
	copy(b, body)
	return append(b, little(number)...)
}

// seal is the number at a sector's end.
func seal(b []byte) uint64 { return great(b[room:]) }
