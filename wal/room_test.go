package wal_test

import (
	"math/rand/v2"
	"testing"

	"armoire/api"
	"armoire/wal"
)

// counts: the sectors that the chapter lets a record of so many bytes count.
func counts(n int) int { return (n+39)/40 + 2 }

// promised: is there room, as P6.5 says, for what a log has and a record of so many bytes? (Half of what is 8 less than the disk's sectors: the half that is more.)
func promised(l *wal.Log, sectors, n int) bool {
	all := counts(n)
	for _, b := range l.Records() {
		all += counts(len(b))
	}
	return 2*all <= sectors-8
}

// P6.5: what is promised to have room has it, on any disk, wherever in it the log begins.
func TestRoom(t *testing.T) {
	for _, n := range []int{14, 15, 20, 33, 64, 100, 1000, 4000} {
		for _, size := range []int{0, 1, 32, 33, 40, 41, 48, 49, 80, 200, 1000, api.MaxRecord} {
			d := made(t, n)
			l := opened(t, d)
			for round := range 40 {
				for promised(l, n, size) {
					if e := l.Append(make([]byte, size)); e != api.OK {
						t.Fatalf("P6.5: %d sectors, %d records, one of %d bytes: %v", n, len(l.Records()), size, e)
					}
				}
				gone := min(l.First()+uint64(round%3), l.Next())
				done(t, "Cut", l.Cut(gone))
				if round%7 == 6 {
					l = opened(t, d)
				}
			}
		}
	}
}

// P6.5: the same with records of any lengths, and with falls.
func TestRoomAnyLengths(t *testing.T) {
	for seed := range 40 {
		r := rand.New(rand.NewPCG(uint64(seed), 65))
		n := 14 + r.IntN(100)
		d := made(t, n)
		l := opened(t, d)
		for range 300 {
			size := r.IntN(1 + r.IntN(500))
			switch e := l.Append(make([]byte, size)); {
			case e != api.OK && (e != api.ErrFull || promised(l, n, size)):
				t.Fatalf("P6.5: %d sectors, %d records, one of %d bytes: %v", n, len(l.Records()), size, e)
			case e == api.ErrFull:
				done(t, "Cut", l.Cut(l.First()+1+r.Uint64N(l.Next()-l.First())))
			case r.IntN(10) == 0:
				fallen(t, d, someKeep(r, d.Waiting())...)
				l = opened(t, d)
			}
		}
	}
}

// P6.2: a disk that is full refuses each record, again and opened anew, and keeps what it has; a Cut makes room.
func TestFull(t *testing.T) {
	for _, n := range []int{3, 4, 10, 50} {
		d := made(t, n)
		l := opened(t, d)
		for i := 0; l.Append([]byte{byte(i)}) == api.OK; i++ {
			if i > n {
				t.Fatalf("P6.2: %d records on %d sectors", i, n)
			}
		}
		next := l.Next()
		for range 3 {
			if e := l.Append(nil); e != api.ErrFull || l.Next() != next {
				t.Fatalf("P6.2: Append of a disk that is full: %v, Next %d; want %d", e, l.Next(), next)
			}
			l = opened(t, d)
		}
		for i, b := range l.Records() {
			if len(b) != 1 || b[0] != byte(i) {
				t.Fatalf("P6.2: the record %d: %v", i, b)
			}
		}
		done(t, "Cut", l.Cut(1))
		done(t, "Append", l.Append([]byte("z")))
		if e := l.Append(nil); e != api.ErrFull {
			t.Fatalf("P6.2: Append of a disk that is full again: %v", e)
		}
		has(t, opened(t, d), 1, func() (list []string) {
			for i := 1; i < int(next); i++ {
				list = append(list, string([]byte{byte(i)}))
			}
			return append(list, "z")
		}()...)
	}
}

// P6.2: a disk that is too small for any record.
func TestTooSmall(t *testing.T) {
	for n := 1; n <= 2; n++ {
		d := made(t, n)
		l := opened(t, d)
		if e := l.Append(nil); e != api.ErrFull {
			t.Errorf("P6.2: %d sectors: Append: %v", n, e)
		}
		done(t, "Sync", l.Sync())
		done(t, "Cut", l.Cut(0))
		if e := l.Cut(1); e != api.ErrArg {
			t.Errorf("P6.2: %d sectors: Cut(1): %v", n, e)
		}
		has(t, l, 0)
		d.Crash(nil)
		if e := l.Append(nil); e != api.ErrDown {
			t.Errorf("P6.2: %d sectors, down: Append: %v", n, e)
		}
	}
}
