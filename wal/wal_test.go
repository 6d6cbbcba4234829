package wal_test

import (
	"bytes"
	"errors"
	"slices"
	"testing"

	"armoire/api"
	"armoire/disk"
	"armoire/wal"
)

// made: a new disk of n sectors.
func made(t *testing.T, n int) *disk.Disk {
	t.Helper()
	d, e := disk.New(n)
	if e != api.OK {
		t.Fatalf("New(%d): %v", n, e)
	}
	return d
}

// opened: the log that is on a disk.
func opened(t *testing.T, d *disk.Disk) *wal.Log {
	t.Helper()
	l, e := wal.Open(d)
	if l == nil || e != api.OK {
		t.Fatalf("P6.1: Open: %v, %v", l, e)
	}
	return l
}

// done: what was to be done is.
func done(t *testing.T, what string, e api.Errno) {
	t.Helper()
	if e != api.OK {
		t.Fatalf("P6.2: %s: %v", what, e)
	}
}

// appended: records that are to be appended.
func appended(t *testing.T, l *wal.Log, list ...string) {
	t.Helper()
	for _, s := range list {
		next := l.Next()
		done(t, "Append", l.Append([]byte(s)))
		if l.Next() != next+1 {
			t.Fatalf("P6.2: Next: %d; want %d", l.Next(), next+1)
		}
	}
}

// has: a log is to have these records, the first of which has that number.
func has(t *testing.T, l *wal.Log, first uint64, want ...string) {
	t.Helper()
	var got []string
	for _, b := range l.Records() {
		got = append(got, string(b))
	}
	if l.First() != first || l.Next() != first+uint64(len(want)) || !slices.Equal(got, want) {
		t.Fatalf("P6.3: %d to %d: %q; want %d: %q", l.First(), l.Next(), got, first, want)
	}
}

// fallen: the disk falls, and is started.
func fallen(t *testing.T, d *disk.Disk, keep ...int) {
	t.Helper()
	if d.Crash(keep) != api.OK || d.Start() != api.OK {
		t.Fatal("Crash and Start")
	}
}

// P6.1: a disk that nobody has written to, however small.
func TestOpenNew(t *testing.T) {
	for _, n := range []int{1, 2, 3, 4, 8, 100, api.MaxSectors} {
		d := made(t, n)
		l := opened(t, d)
		has(t, l, 0)
		done(t, "Sync", l.Sync())
		done(t, "Cut", l.Cut(0))
		has(t, opened(t, d), 0)
	}
}

// P6.1: no disk, and one that is down.
func TestOpenRefused(t *testing.T) {
	if l, e := wal.Open(nil); l != nil || e != api.ErrNil {
		t.Errorf("P6.1: Open(nil): %v, %v", l, e)
	}
	d := made(t, 20)
	appended(t, opened(t, d), "a")
	d.Crash([]int{64})
	if l, e := wal.Open(d); l != nil || e != api.ErrDown {
		t.Errorf("P6.1: Open of one that is down: %v, %v", l, e)
	}
	var zero disk.Disk
	has(t, opened(t, &zero), 0)
	zero.Crash(nil)
	if l, e := wal.Open(&zero); l != nil || e != api.ErrDown {
		t.Errorf("P6.1: Open of one that is down, without sectors: %v, %v", l, e)
	}
}

// P6.1, P6.2: opened anew without a fall the log is as it was, whatever waits, and goes on.
func TestOpenedAnew(t *testing.T) {
	d := made(t, 60)
	var want []string
	for i := range 12 {
		l := opened(t, d)
		has(t, l, 0, want...)
		s := string(bytes.Repeat([]byte{byte('a' + i)}, i*13))
		appended(t, l, s)
		want = append(want, s)
	}
	l := opened(t, d)
	done(t, "Sync", l.Sync())
	if d.Waiting() != 0 {
		t.Errorf("P6.2: %d wait behind Sync", d.Waiting())
	}
	fallen(t, d)
	has(t, opened(t, d), 0, want...)
}

// P6.1, W4: opening changes nothing, so that opened twice all is as opened once, and a fall that is due comes as if nobody had opened.
func TestOpenOnlyReads(t *testing.T) {
	d := made(t, 30)
	l := opened(t, d)
	appended(t, l, "a", "b", "c")
	done(t, "Cut", l.Cut(1))
	appended(t, l, "d")
	for _, keep := range [][]int{nil, {64}, {10}} {
		f := d.Fork()
		fallen(t, f, keep...)
		appended(t, opened(t, f), "e", "f")
		var list [2][][]byte
		for i := range list {
			before := shown(t, f)
			waits := f.Waiting()
			f.Arm(1)
			list[i] = opened(t, f).Records()
			if !slices.EqualFunc(before, shown(t, f), bytes.Equal) || f.Waiting() != waits || f.Flush() != api.ErrDown {
				t.Error("P6.5: Open changes what is on the disk")
			}
			fallen(t, f, 64, 64, 64)
		}
		if !slices.EqualFunc(list[0], list[1], bytes.Equal) {
			t.Errorf("W4: opened once: %q, twice: %q", list[0], list[1])
		}
	}
}

// shown: all sectors.
func shown(t *testing.T, d *disk.Disk) [][]byte {
	t.Helper()
	var list [][]byte
	for at := range d.Size() {
		b, e := d.Read(at)
		done(t, "Read", e)
		list = append(list, b)
	}
	return list
}

// P6.2: records of all lengths, among others those that just fill sectors, are what they were.
func TestLengths(t *testing.T) {
	d := made(t, 2000)
	l := opened(t, d)
	var want []string
	for _, n := range []int{0, 1, 7, 8, 39, 40, 41, 47, 48, 49, 55, 56, 57, 63, 64, 65, 103, 104, 105, 128, 1000, 0, 0, api.MaxRecord - 1, api.MaxRecord} {
		b := make([]byte, n)
		for i := range b {
			b[i] = byte(n + i*i)
		}
		appended(t, l, string(b))
		want = append(want, string(b))
		has(t, l, 0, want...)
		has(t, opened(t, d), 0, want...)
	}
	done(t, "Sync", l.Sync())
	fallen(t, d)
	has(t, opened(t, d), 0, want...)
}

// P6.2: a record that looks like a disk, all 0 or all 255, is one like others.
func TestBytes(t *testing.T) {
	d := made(t, 100)
	l := opened(t, d)
	zeros, ones := string(make([]byte, 200)), string(bytes.Repeat([]byte{255}, 200))
	appended(t, l, zeros, ones, zeros[:48], "", ones[:56])
	has(t, opened(t, d), 0, zeros, ones, zeros[:48], "", ones[:56])
}

// P6.2: Cut from First to Next; what is gone is gone for good, and what is behind it stays.
func TestCut(t *testing.T) {
	d := made(t, 60)
	l := opened(t, d)
	appended(t, l, "a", "b", "c", "d", "e")
	for _, n := range []uint64{0, 1, 1, 3, 4} {
		done(t, "Cut", l.Cut(n))
		has(t, l, n, []string{"a", "b", "c", "d", "e"}[n:]...)
		has(t, opened(t, d), n, []string{"a", "b", "c", "d", "e"}[n:]...)
		f := d.Fork()
		fallen(t, f)
		has(t, opened(t, f), n, []string{"a", "b", "c", "d", "e"}[n:]...)
	}
	done(t, "Cut", l.Cut(5))
	has(t, l, 5)
	fallen(t, d)
	m := opened(t, d)
	has(t, m, 5)
	appended(t, m, "f")
	has(t, opened(t, d), 5, "f")
}

// P6.2: a Cut that takes nothing away lets all be safe, too.
func TestCutOfNothing(t *testing.T) {
	d := made(t, 60)
	l := opened(t, d)
	appended(t, l, "a", "b")
	done(t, "Cut", l.Cut(0))
	fallen(t, d)
	m := opened(t, d)
	has(t, m, 0, "a", "b")
	done(t, "Cut", m.Cut(1))
	appended(t, m, "c")
	done(t, "Cut", m.Cut(1))
	fallen(t, d)
	has(t, opened(t, d), 1, "b", "c")
}

// P6.2: what is refused changes nothing.
func TestRefusals(t *testing.T) {
	d := made(t, 12)
	l := opened(t, d)
	appended(t, l, "a", "b", "c")
	done(t, "Cut", l.Cut(2))
	for _, n := range []uint64{0, 1, 4, 5, 1 << 32, 1<<63 - 1, 1 << 63, 1<<64 - 1} {
		if e := l.Cut(n); e != api.ErrArg {
			t.Errorf("P6.2: Cut(%d): %v", n, e)
		}
	}
	for _, n := range []int{api.MaxRecord + 1, 2 * api.MaxRecord} {
		if e := l.Append(make([]byte, n)); e != api.ErrLong {
			t.Errorf("P6.2: Append of %d bytes: %v", n, e)
		}
	}
	if e := l.Append(make([]byte, api.MaxRecord)); e != api.ErrFull {
		t.Errorf("P6.2: Append without room: %v", e)
	}
	has(t, l, 2, "c")
	has(t, opened(t, d), 2, "c")
	appended(t, l, "d")
	has(t, l, 2, "c", "d")
}

// P6.3: a nil log.
func TestNil(t *testing.T) {
	var l *wal.Log
	for _, e := range []api.Errno{l.Append(nil), l.Append(make([]byte, api.MaxRecord+1)), l.Sync(), l.Cut(0), l.Cut(1)} {
		if e != api.ErrNil {
			t.Errorf("P6.3: a nil log: %v", e)
		}
	}
	has(t, l, 0)
}

// R1: a log that Open did not make has no disk.
func TestZero(t *testing.T) {
	var l wal.Log
	for _, e := range []api.Errno{l.Append([]byte("a")), l.Append(make([]byte, api.MaxRecord+1)), l.Sync(), l.Cut(0), l.Cut(1)} {
		if e != api.ErrNil {
			t.Errorf("R1: a log without a disk: %v", e)
		}
	}
	has(t, &l, 0)
}

// asks: the calls that write.
func asks() map[string]func(*wal.Log) api.Errno {
	return map[string]func(*wal.Log) api.Errno{
		"Append":         func(l *wal.Log) api.Errno { return l.Append([]byte("c")) },
		"Sync":           func(l *wal.Log) api.Errno { return l.Sync() },
		"Cut":            func(l *wal.Log) api.Errno { return l.Cut(1) },
		"Cut of nothing": func(l *wal.Log) api.Errno { return l.Cut(0) },
	}
}

// P6.2, P6.3: what goes down in a call changes nothing that the log tells, and is down for good.
func TestDownForGood(t *testing.T) {
	for name, ask := range asks() {
		for hit := 1; ; hit++ {
			d := made(t, 60)
			l := opened(t, d)
			appended(t, l, "a", "b")
			d.Arm(hit)
			e := ask(l)
			if !d.Down() {
				done(t, name, e)
				break
			}
			staysDown(t, d, l, name)
		}
	}
}

// P6.2, P6.3: a disk that went down ahead of the call.
func TestDownAhead(t *testing.T) {
	for name, ask := range asks() {
		d := made(t, 60)
		l := opened(t, d)
		appended(t, l, "a", "b")
		d.Crash([]int{64, 64, 64})
		if e := ask(l); e != api.ErrDown {
			t.Errorf("P6.2: %s of one that is down: %v", name, e)
		}
		staysDown(t, d, l, name)
	}
}

// staysDown: a log of "a" and "b" that has answered ErrDown answers it also when the disk is up again; what it has it tells as ever.
func staysDown(t *testing.T, d *disk.Disk, l *wal.Log, ahead string) {
	t.Helper()
	for range 2 {
		for name, ask := range asks() {
			if e := ask(l); e != api.ErrDown {
				t.Errorf("P6.3: %s was down, then %s: %v", ahead, name, e)
			}
		}
		has(t, l, 0, "a", "b")
		d.Start()
	}
	if d.Waiting() != 0 {
		t.Errorf("P6.3: a log that is down writes: %d", d.Waiting())
	}
}

// P6.2, R5: of two errors the one that is named first counts.
func TestFirstNamed(t *testing.T) {
	d := made(t, 12)
	l := opened(t, d)
	appended(t, l, "a", "b")
	done(t, "Cut", l.Cut(1))
	d.Crash(nil)
	for range 2 {
		if e := l.Append(make([]byte, api.MaxRecord+1)); e != api.ErrLong {
			t.Errorf("R5: Append, too long, down: %v", e)
		}
		for _, n := range []uint64{0, 3} {
			if e := l.Cut(n); e != api.ErrArg {
				t.Errorf("R5: Cut(%d), down: %v", n, e)
			}
		}
		if e := l.Append(make([]byte, api.MaxRecord)); e != api.ErrDown {
			t.Errorf("R5: Append, no room, down: %v", e)
		}
	}
}

// P6.2: a fall that the log was not asked anything in: what is lost is never told to be safe; what lost nothing does not matter.
func TestFallUnseen(t *testing.T) {
	for name, ask := range asks() {
		for _, keep := range [][]int{nil, {64}, {64, 64, 20}, {0, 64, 64, 64}, {64, 64, 64}} {
			d := made(t, 60)
			l := opened(t, d)
			appended(t, l, "a", "b", "c")
			fallen(t, d, keep...)
			want := api.ErrDown
			if len(keep) == 3 && keep[2] == 64 {
				want = api.OK
			}
			if e := ask(l); e != want {
				t.Errorf("P6.2: %s behind a fall that kept %v: %v; want %v", name, keep, e, want)
			}
			if e := l.Sync(); e != want {
				t.Errorf("P6.3: Sync behind it: %v; want %v", e, want)
			}
		}
		d := made(t, 60)
		l := opened(t, d)
		appended(t, l, "a", "b")
		d.Flush()
		done(t, name, ask(l))
		done(t, "Sync", l.Sync())
		fallen(t, d)
		done(t, name, l.Append([]byte("z")))
		if m := opened(t, d); m.First() != l.First() || m.Next() != l.Next() {
			t.Errorf("P6.2: %d to %d; want %d to %d", m.First(), m.Next(), l.First(), l.Next())
		}
	}
}

// Ways: what a log answers is one that errors.Is holds.
func TestErrorsIs(t *testing.T) {
	d := made(t, 12)
	l := opened(t, d)
	d.Arm(1)
	if e := l.Append(nil); !errors.Is(e, api.ErrDown) || errors.Is(e, api.OK) {
		t.Errorf("Ways: %v", e)
	}
}
