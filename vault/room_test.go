package vault_test

import (
	"math/rand/v2"
	"slices"
	"testing"

	"armoire/api"
	"armoire/disk"
	"armoire/vault"
	"armoire/wal"
)

// shapes: logs of just so many bytes, as P7.3 counts them, or as near below it as they can be: of empty entries, of long ones, and so on.
func shapes(bytes int, term uint64) []api.Log {
	var list []api.Log
	for _, size := range []int{0, 1, 17, 80, 300, 3000, api.MaxRecord - 100} {
		for _, snap := range []int{0, 100, api.MaxRecord - 100} {
			l := api.Log{Hard: api.Hard{Term: 1<<63 + term, Vote: 5}}
			left := bytes - 400
			if snap > 0 && left > 0 {
				l.Snap = api.Snap{Index: 1<<62 - 9, Term: 1<<63 + term, Data: data(min(snap, left), byte(term))}
				left -= len(l.Snap.Data)
			}
			for left >= 100 {
				n := min(size, left-100)
				at := l.Snap.Index + uint64(len(l.Entries)) + 1
				l.Entries = append(l.Entries, api.Entry{Term: l.Hard.Term, Index: at, Data: data(n, byte(at)+byte(term)*3)})
				left -= 100 + n
			}
			list = append(list, l)
		}
	}
	return list
}

// P7.3: what is promised to have room has it, on any disk, whatever was there ahead of it.
func TestRoom(t *testing.T) {
	for _, n := range []int{75, 76, 90, 94, 95, 120, 150, 300, 777, 2000, 8192} {
		d := made(t, n)
		v := opened(t, d)
		most := n * api.Sector / 12
		for round := range uint64(4) {
			for i, l := range shapes(most, round) {
				if !vault.Right(l) || !promised(d, l) || bytesOf(l)+100 <= most {
					t.Fatalf("the test is wrong: %d sectors, %d bytes", n, bytesOf(l))
				}
				put(t, v, l)
				if i%5 == 4 {
					l = api.Log{Hard: l.Hard}
					put(t, v, l)
				}
				if i%4 == 3 {
					v = opened(t, d)
					has(t, v, l)
				}
			}
		}
	}
}

// P7.3: the greatest disk.
func TestRoomGreatest(t *testing.T) {
	d := made(t, api.MaxSectors)
	v := opened(t, d)
	for round := range uint64(2) {
		for _, l := range shapes(api.MaxSectors*api.Sector/12, round)[9:] {
			put(t, v, l)
		}
	}
	has(t, opened(t, d), v.Log())
}

// P7.3: small changes to a log that has all the room there is, for a long time.
func TestRoomLong(t *testing.T) {
	for _, n := range []int{100, 500, 2000} {
		d := made(t, n)
		v := opened(t, d)
		for _, l := range shapes(n*api.Sector/12-200, 1)[:9] {
			for i := range 300 {
				l.Hard = api.Hard{Term: l.Hard.Term + 1, Vote: i % 6}
				if n := len(l.Entries); n > 0 && i%3 == 0 {
					l.Entries = slices.Clone(l.Entries)
					l.Entries[n-1] = api.Entry{Term: l.Hard.Term, Index: l.Entries[n-1].Index, Data: data(i%50, byte(i))}
				}
				put(t, v, l)
				if i%100 == 99 {
					v = opened(t, d)
					has(t, v, l)
				}
			}
		}
	}
}

// P7.3, P7.2: falls leave nothing behind that takes room for good: however many come, the first Put that none comes to is done.
func TestRoomBehindFalls(t *testing.T) {
	for _, n := range []int{2500, 8192, 14000} {
		for seed := range uint64(6) {
			t.Run("", func(t *testing.T) {
				t.Parallel()
				r := rand.New(rand.NewPCG(seed, uint64(n)))
				d, k := made(t, n), known{}
				logs := append(shapes(n*api.Sector/12, seed), shapes(n*api.Sector/12, seed+1)...)
				for range 80 {
					v := k.found(t, d)
					d.Arm(1 + r.IntN(1+n/6))
					k.do(t, v, logs[r.IntN(len(logs))])
					fallen(t, d, whole(d.Waiting()-r.IntN(3))...)
					inRoom(t, d)
				}
				v := k.found(t, d)
				put(t, v, logs[0])
				put(t, v, logs[len(logs)-1])
			})
		}
	}
}

// whole: n writes that are kept, all of each.
func whole(n int) []int {
	keep := make([]int, max(n, 0))
	for i := range keep {
		keep[i] = api.Sector
	}
	return keep
}

// inRoom: what a vault has laid is what wal has room for by its own promise (P6.5), so that it need not find out.
func inRoom(t *testing.T, d *disk.Disk) {
	t.Helper()
	w, e := wal.Open(d)
	if e != api.OK {
		t.Fatal(e)
	}
	all := 0
	for _, b := range w.Records() {
		all += (len(b)+39)/40 + 2
	}
	if 2*all > d.Size()-16 {
		t.Fatalf("P6.5: %d of %d sectors", all, d.Size())
	}
}

// longest is a log of entries of so many bytes, the longest one that a disk of n sectors has room for: it has more than P7.3 promises room for.
func longest(t *testing.T, n, size int, term uint64) api.Log {
	t.Helper()
	v := opened(t, made(t, n))
	l := row(1<<63+term, 0)
	for v.Put(l) == nil {
		last := uint64(len(l.Entries) + 1)
		l.Entries = append(l.Entries, api.Entry{Term: l.Hard.Term, Index: last, Data: data(size, byte(term)+byte(last))})
	}
	l.Entries = l.Entries[:len(l.Entries)-1]
	return l
}

// P7.3: what is laid is in room at each step, whatever it takes the place of.
func TestRoomPromised(t *testing.T) {
	for _, n := range []int{75, 100, 200, 700} {
		for _, size := range []int{0, 1, 50, 400} {
			d := made(t, n)
			for i := range uint64(9) {
				l := longest(t, n, size, i%3)
				for hit := 1; ; hit += 1 + n/200 {
					d := d.Fork()
					v := opened(t, d)
					d.Arm(hit)
					err := v.Put(l)
					fallen(t, d, whole(d.Waiting())...)
					inRoom(t, d)
					put(t, opened(t, d), l)
					inRoom(t, d)
					if err == nil {
						break
					}
				}
				put(t, opened(t, d), l)
			}
		}
	}
}

// P7.2, P7.3: the same with falls at any steps, one behind the other, and with logs that are other ones in little or in all.
func TestRoomManyFalls(t *testing.T) {
	for _, n := range []int{75, 100, 200} {
		r := rand.New(rand.NewPCG(uint64(n), 73))
		d, k := made(t, n), known{}
		logs := []api.Log{longest(t, n, 0, 1), longest(t, n, 30, 2), longest(t, n, 0, 3), longest(t, n, 30, 4)}
		for range 3000 {
			v := k.found(t, d)
			d.Arm(1 + r.IntN(n))
			for l, on := k.safe, true; on; on = k.do(t, v, l) {
				l.Hard.Vote = (l.Hard.Vote + 1) % 6
				if r.IntN(4) == 0 {
					l = logs[r.IntN(len(logs))]
				}
			}
			fallen(t, d, whole(d.Waiting())...)
			inRoom(t, d)
		}
	}
}

// P7.2, P7.3: a fall comes at each renewal, again and again, when part of it is kept: it takes the room of one.
func TestRoomBehindRenewals(t *testing.T) {
	a, b := row(1, 30000, 30000, 20000), row(2, 30000, 30000, 20000)
	d, k := made(t, 14000), known{safe: a}
	put(t, opened(t, d), a)
	for i := range uint64(200) {
		v := k.found(t, d)
		d.Arm(500 + int(i*61%900))
		l := more(a, int(i))
		if i%40 > 20 {
			l = more(b, int(i))
		}
		k.do(t, v, l)
		fallen(t, d, whole(d.Waiting())...)
		inRoom(t, d)
	}
	put(t, opened(t, d), a)
	put(t, opened(t, d), b)
}

// P7.1: a disk that is too small for any log.
func TestTooSmall(t *testing.T) {
	for n := 1; n < 75; n++ {
		d := made(t, n)
		v := opened(t, d)
		l := api.Log{}
		for term := range uint64(50) {
			next := row(term+1, 3)
			err := v.Put(next)
			if err == nil {
				l = next
			} else {
				answers(t, "Put", err, api.ErrFull)
			}
			has(t, v, l)
			has(t, opened(t, d), l)
		}
		put(t, v, l)
		d.Crash(nil)
		answers(t, "too small, down", v.Put(row(99, 3)), api.ErrDown)
	}
}
