package wal_test

import (
	"bytes"
	"math/rand/v2"
	"testing"

	"armoire/api"
	"armoire/wal"
)

// R3: what is handed in is neither changed nor kept, with the room behind its end.
func TestArgumentsStay(t *testing.T) {
	for _, n := range []int{0, 1, 47, 48, 56, 100} {
		d := made(t, 60)
		l := opened(t, d)
		all := bytes.Repeat([]byte{7}, n+200)
		done(t, "Append", l.Append(all[:n]))
		if !bytes.Equal(all, bytes.Repeat([]byte{7}, n+200)) {
			t.Errorf("R3: what was handed in is changed: %v", all)
		}
		copy(all, bytes.Repeat([]byte{9}, len(all)))
		want := string(bytes.Repeat([]byte{7}, n))
		has(t, l, 0, want)
		done(t, "Sync", l.Sync())
		has(t, opened(t, d), 0, want)
	}
}

// R3: what is handed out is new memory, each record its own.
func TestAnswersAreNew(t *testing.T) {
	d := made(t, 60)
	l := opened(t, d)
	appended(t, l, "a", "", string(make([]byte, 100)))
	for _, l := range []*wal.Log{l, opened(t, d)} {
		for range 2 {
			list := l.Records()
			for i := range list {
				b := list[i][:cap(list[i])]
				copy(b, bytes.Repeat([]byte{'#'}, len(b)))
				list[i] = nil
			}
			has(t, l, 0, "a", "", string(make([]byte, 100)))
		}
		list := l.Records()
		first := append(list[0], bytes.Repeat([]byte{'#'}, 100)...)
		if string(list[1]) != "" || !bytes.Equal(list[2], make([]byte, 100)) || len(first) != 101 {
			t.Error("R3: two records share memory")
		}
		_ = append(list, []byte("more"))
		has(t, l, 0, "a", "", string(make([]byte, 100)))
	}
}

// R2: a log hangs on its own disk alone.
func TestTwoDisks(t *testing.T) {
	d := made(t, 60)
	appended(t, opened(t, d), "a")
	f := d.Fork()
	l, m := opened(t, d), opened(t, f)
	appended(t, l, "b")
	appended(t, m, "c", "d")
	done(t, "Cut", m.Cut(2))
	has(t, l, 0, "a", "b")
	has(t, opened(t, d), 0, "a", "b")
	has(t, opened(t, f), 2, "d")
}

// R1: whatever is on a disk, no call panics, and each ends.
func TestAnyDisk(t *testing.T) {
	for seed := range 3000 {
		r := rand.New(rand.NewPCG(uint64(seed), 1))
		d := made(t, 1+r.IntN(12))
		for at := range d.Size() {
			b := make([]byte, api.Sector)
			for i := range b {
				if i%8 < 1+r.IntN(2) || seed%3 == 0 {
					b[i] = byte(r.IntN(1 << r.IntN(9)))
				}
			}
			if seed%7 == 0 && at < 2 {
				b = bytes.Repeat([]byte{255}, api.Sector)
			}
			done(t, "Write", d.Write(at, b))
		}
		l := opened(t, d)
		for range 3 {
			l.Records()
			l.Append(make([]byte, r.IntN(100)))
			l.Cut(l.First() + uint64(r.IntN(3)))
			l.Sync()
			l = opened(t, d)
		}
	}
}
