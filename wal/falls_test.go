package wal_test

import (
	"bytes"
	"math/rand/v2"
	"slices"
	"testing"

	"armoire/api"
	"armoire/disk"
	"armoire/wal"
)

// tears: how much may be kept of so many writes that wait: each of these numbers of each write, fewer of them where many wait.
func tears(waits int) [][]int {
	points := []int{0, api.Sector}
	switch waits {
	case 1:
		points = []int{0, 1, 7, 8, 9, 24, 30, 55, 56, 57, 58, 59, 63, api.Sector}
	case 2:
		points = []int{0, 1, 8, 20, 56, 57, 58, api.Sector}
	case 3, 4:
		points = []int{0, 57, api.Sector}
	}
	list := [][]int{nil}
	for range min(waits, 6) {
		var longer [][]int
		for _, keep := range list {
			for _, p := range points {
				longer = append(longer, append(slices.Clone(keep), p))
			}
		}
		list = longer
	}
	return list
}

// tree is all that may come of sessions, one behind the other; what was on a disk at the beginning of one is gone on with once.
type tree struct {
	sessions [][]op
	seen     map[string]bool
}

// grow goes on from what is on a disk ahead of the n-th session: it is hit at each Write and Flush, and keeps each tear.
func (w tree) grow(t *testing.T, d *disk.Disk, k known, n int) {
	t.Helper()
	key := string(bytes.Join(append(shown(t, d), []byte{byte(n)}), nil))
	if n == len(w.sessions) || w.seen[key] {
		return
	}
	w.seen[key] = true
	for hit := 1; ; hit++ {
		d, k := d.Fork(), k.fork()
		l := k.found(t, d)
		d.Arm(hit)
		for _, o := range w.sessions[n] {
			if !k.do(t, l, o, byte(n)) {
				break
			}
		}
		for _, keep := range tears(d.Waiting()) {
			d, k := d.Fork(), k.fork()
			fallen(t, d, keep...)
			k.found(t, d)
			w.grow(t, d, k, n+1)
		}
		if !d.Down() {
			return
		}
	}
}

// P6.4: whichever Write or Flush is hit, and whatever is kept, three sessions long.
func TestAllFalls(t *testing.T) {
	first := []op{{"append", 10}, {"append", 90}, {"append", 40}}
	cases := map[string][][]op{
		"lost, lost again":       {first, {{"append", 90}, {"append", 10}}, {{"append", 60}}},
		"cut, gone on":           {{{"append", 60}, {"append", 5}, {"cut", 1}, {"append", 70}}, {{"append", 90}, {"cut", 1}}, {{"append", 10}}},
		"round":                  {{{"append", 100}, {"append", 100}, {"cut", 2}, {"append", 150}}, {{"append", 50}, {"cut", 1}, {"append", 120}}, {{"append", 60}}},
		"safe":                   {{{"append", 10}, {"sync", 0}, {"append", 60}, {"sync", 0}}, {{"sync", 0}, {"append", 0}, {"cut", 2}}, {{"cut", 1}, {"append", 9}}},
		"cut of all, and none":   {{{"append", 10}, {"cut", 1}, {"cut", 0}, {"append", 20}}, {{"cut", 1}, {"append", 48}}, {{"cut", 9}}},
		"four hits on the heads": {{{"append", 1}, {"cut", 1}}, {{"append", 2}, {"cut", 1}}, {{"append", 3}, {"cut", 1}}, {{"append", 4}, {"cut", 1}}},
	}
	for name, sessions := range cases {
		t.Run(name, func(t *testing.T) {
			t.Parallel()
			tree{sessions, map[string]bool{}}.grow(t, made(t, 9), known{}, 0)
		})
	}
}

// someOp: any thing.
func someOp(r *rand.Rand, great int) op {
	switch n := r.IntN(10); {
	case n < 6:
		return op{"append", r.IntN(great)}
	case n < 7:
		return op{"sync", 0}
	}
	return op{"cut", r.IntN(3)}
}

// some does fewer than n things, up to one that goes down.
func (k *known) some(t *testing.T, l *wal.Log, r *rand.Rand, n, great int, session byte) {
	t.Helper()
	for range r.IntN(n) {
		if !k.do(t, l, someOp(r, great), session) {
			return
		}
	}
}

// someKeep: any tear, more often none, or whole, or one in the number.
func someKeep(r *rand.Rand, waits int) []int {
	keep := make([]int, waits)
	for i := range keep {
		keep[i] = []int{0, api.Sector, r.IntN(api.Sector), 55 + r.IntN(9), r.IntN(20) - 5}[r.IntN(5)]
	}
	return keep
}

// P6.4: long days of many falls, on disks small and great.
func TestManyFalls(t *testing.T) {
	for seed := range 120 {
		r := rand.New(rand.NewPCG(uint64(seed), 6))
		d, k := made(t, 3+r.IntN(6)*r.IntN(6)), known{}
		great := 20 + r.IntN(300)
		l := k.found(t, d)
		for session := range 300 {
			if r.IntN(3) > 0 {
				d.Arm(1 + r.IntN(20))
			}
			k.some(t, l, r, 12, great, byte(session))
			if d.Down() || r.IntN(4) > 0 {
				fallen(t, d, someKeep(r, d.Waiting())...)
				l = k.found(t, d)
			} else {
				d.Start()
				l = k.again(t, d)
			}
		}
	}
}

// P6.4: the same where the numbers of heads and sectors just get another byte.
func TestManyFallsFarOn(t *testing.T) {
	for _, turns := range []int{20, 40, 60, 250, 8100} {
		for seed := range 4 {
			r := rand.New(rand.NewPCG(uint64(seed), uint64(turns)))
			d, k := made(t, 10), known{}
			l := k.found(t, d)
			for range turns {
				k.do(t, l, op{"append", 5}, 1)
				k.do(t, l, op{"cut", 1}, 1)
			}
			for session := range 200 {
				l := k.found(t, d)
				d.Arm(1 + r.IntN(9))
				k.some(t, l, r, 6, 130, byte(session))
				fallen(t, d, someKeep(r, d.Waiting())...)
			}
		}
	}
}

// P6.5: falls while a log is opened, whatever is armed, change nothing.
func TestFallsInOpen(t *testing.T) {
	d := made(t, 30)
	l := opened(t, d)
	appended(t, l, "a", "bb", "ccc")
	done(t, "Cut", l.Cut(1))
	appended(t, l, "dddd")
	fallen(t, d, 40)
	for hit := range 10 {
		for _, keep := range tears(2) {
			d := d.Fork()
			d.Arm(hit)
			if _, e := wal.Open(d); e != api.OK && e != api.ErrDown {
				t.Fatalf("P6.1: Open: %v", e)
			}
			fallen(t, d, keep...)
			m := opened(t, d)
			has(t, m, 1, "bb", "ccc")
			appended(t, m, "e")
			has(t, opened(t, d), 1, "bb", "ccc", "e")
		}
	}
}
