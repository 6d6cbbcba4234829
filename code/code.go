// Package code is layer 1: see shared/doc/01-code.md.
package code

// Num: seven bits a byte, the lowest first; each byte but the last has its highest bit set.
func Num(v uint64) []byte {
	var out []byte
	for v >= more {
		out = append(out, byte(v)|more)
		v >>= bits
	}
	return append(out, byte(v))
}

// Int: the sign becomes the lowest bit, so that what is near 0 is short on both sides of it.
func Int(v int64) []byte {
	if v < 0 {
		// -2v - 1, by way of ^v (which is -v - 1): -v has no place for the lowest number.
		return Num(uint64(^v)<<1 | 1)
	}
	return Num(uint64(v) << 1)
}

// Text: its length, and its bytes.
func Text(b []byte) []byte {
	return append(Num(uint64(len(b))), b...)
}
