package wal

import (
	"bytes"
	"slices"
	"testing"

	"armoire/api"
)

// What follows: a number that is torn over a lower one is lower than it, unless all of it is there.
func TestTornNumber(t *testing.T) {
	list := []uint64{0, 1, 2, 254, 255, 256, 257, 258, 0x1ff, 0x200, 0x201, 0xfffe, 0xffff, 0x10000, 0x10001, 0x1ffff, 0x123456, 1<<32 - 1, 1 << 32, 1<<63 - 1, 1 << 63, 1<<64 - 1}
	for _, n := range list {
		if great(little(n)) != n || len(little(n)) != word {
			t.Errorf("%d: %v", n, little(n))
		}
		for _, old := range list[:slices.Index(list, n)] {
			for k := range word + 1 {
				torn := append(little(n)[:k:k], little(old)[k:]...)
				if m := great(torn); m > n || m == n && !bytes.Equal(torn, little(n)) {
					t.Errorf("%d over %d, %d bytes: %d", n, old, k, m)
				}
			}
		}
	}
}

// What follows: what stands at a sector's end tells whether it is whole.
func TestTornSector(t *testing.T) {
	old := sealed(bytes.Repeat([]byte{1}, room), 0x1ff)
	now := sealed([]byte("now"), 0x200)
	if len(now) != api.Sector || string(now[:4]) != "now\x00" || seal(now) != 0x200 {
		t.Fatalf("sealed: %v", now)
	}
	for k := range api.Sector + 1 {
		torn := append(now[:k:k], old[k:]...)
		if whole := bytes.Equal(torn, now); whole != (seal(torn) == 0x200) {
			t.Errorf("%d bytes: %x, whole %v", k, seal(torn), whole)
		}
	}
}
