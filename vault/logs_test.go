package vault_test

import (
	"bytes"
	"math/rand/v2"
	"slices"
	"testing"

	"armoire/api"
	"armoire/disk"
	"armoire/fault"
	"armoire/vault"
)

// made: a new disk of n sectors.
func made(t *testing.T, n int) *disk.Disk {
	t.Helper()
	d, e := disk.New(n)
	if e != api.OK {
		t.Fatalf("New(%d): %v", n, e)
	}
	return d
}

// opened: the vault that is on a disk.
func opened(t *testing.T, d *disk.Disk) *vault.Vault {
	t.Helper()
	v, err := vault.Open(d)
	if v == nil || err != nil {
		t.Fatalf("P7.1: Open: %v, %v", v, err)
	}
	return v
}

// put: a log that there is to be room for.
func put(t *testing.T, v *vault.Vault, l api.Log) {
	t.Helper()
	if err := v.Put(l); err != nil {
		t.Fatalf("P7.1: Put: %v", err)
	}
	has(t, v, l)
}

// has: a vault is to have this log.
func has(t *testing.T, v *vault.Vault, want api.Log) {
	t.Helper()
	if got := v.Log(); !same(got, want) {
		t.Fatalf("P7.1: Log: %s; want %s", short(got), short(want))
	}
}

// answers: an error is to have this code, and to be a fault, or none.
func answers(t *testing.T, what string, err error, want api.Errno) {
	t.Helper()
	if fault.Code(err) != want {
		t.Errorf("P7.1: %s: %v; want %v", what, err, want)
	}
	if _, ok := err.(*fault.Fault); ok != (want != api.OK) {
		t.Errorf("P7.1: %s: %v is a fault: %v", what, err, ok)
	}
}

// fallen: the disk falls, and is started.
func fallen(t *testing.T, d *disk.Disk, keep ...int) {
	t.Helper()
	if d.Crash(keep) != api.OK || d.Start() != api.OK {
		t.Fatal("Crash and Start")
	}
}

// same: are two logs the same?
func same(a, b api.Log) bool {
	return a.Hard == b.Hard && a.Snap.Index == b.Snap.Index && a.Snap.Term == b.Snap.Term && bytes.Equal(a.Snap.Data, b.Snap.Data) &&
		slices.EqualFunc(a.Entries, b.Entries, func(a, b api.Entry) bool {
			return a.Index == b.Index && a.Term == b.Term && bytes.Equal(a.Data, b.Data)
		})
}

// short is a log without what is long in it.
func short(l api.Log) string {
	b := []byte{}
	num := func(n uint64) { b = append(b, ' ', byte('0'+n/100%10), byte('0'+n/10%10), byte('0'+n%10)) }
	num(l.Hard.Term)
	num(uint64(l.Hard.Vote))
	num(l.Snap.Index)
	num(l.Snap.Term)
	num(uint64(len(l.Snap.Data)))
	for _, e := range l.Entries {
		b = append(b, ',')
		num(e.Index)
		num(e.Term)
		num(uint64(len(e.Data)))
	}
	return string(b)
}

// data is n bytes that hang on a seed.
func data(n int, seed byte) []byte {
	b := make([]byte, n)
	for i := range b {
		b[i] = seed + byte(i*i)
	}
	return b
}

// row is a log of one term and no snapshot, whose entries have so many bytes.
func row(term uint64, sizes ...int) api.Log {
	l := api.Log{Hard: api.Hard{Term: term}}
	for i, n := range sizes {
		l.Entries = append(l.Entries, api.Entry{Term: term, Index: uint64(i + 1), Data: data(n, byte(i)+byte(term)*31)})
	}
	return l
}

// snapped is l with a snapshot up to an index in the place of what was there.
func snapped(l api.Log, index uint64, size int) api.Log {
	gone := index - l.Snap.Index
	l.Snap = api.Snap{Index: index, Term: l.Entries[gone-1].Term, Data: data(size, byte(index)*7)}
	l.Entries = slices.Clone(l.Entries[gone:])
	return l
}

// more is l, longer by entries of so many bytes, in a term of their own.
func more(l api.Log, sizes ...int) api.Log {
	l.Hard = api.Hard{Term: l.Hard.Term + 1, Vote: len(sizes) % 6}
	l.Entries = slices.Clone(l.Entries)
	for _, n := range sizes {
		at := l.Snap.Index + uint64(len(l.Entries)) + 1
		l.Entries = append(l.Entries, api.Entry{Term: l.Hard.Term, Index: at, Data: data(n, byte(at)*13+byte(l.Hard.Term))})
	}
	return l
}

// someLog is what may come of a log: it is longer, shorter at either end, only its Hard is another one, or it is another one in all.
func someLog(r *rand.Rand, l api.Log, great int) api.Log {
	sizes := make([]int, r.IntN(4))
	for i := range sizes {
		sizes[i] = r.IntN(1 + r.IntN(great))
	}
	n := len(l.Entries)
	switch r.IntN(6) {
	case 0:
		l.Hard.Term += r.Uint64N(3)
		l.Hard.Vote = r.IntN(6)
	case 1:
		l.Entries = l.Entries[:r.IntN(n+1)]
		return more(l, sizes...)
	case 2:
		if n > 0 {
			return snapped(l, l.Snap.Index+1+r.Uint64N(uint64(n)), r.IntN(great))
		}
	case 3:
		return row(1+r.Uint64N(300), sizes...)
	case 4:
		l.Entries = nil
		l.Snap = api.Snap{Index: 1 + r.Uint64N(20), Term: 1 + r.Uint64N(1+l.Hard.Term), Data: data(r.IntN(great), byte(r.Int()))}
		l.Hard.Term += 2
		return more(l, sizes...)
	default:
		return more(l, sizes...)
	}
	return l
}

// bytesOf: what P7.3 counts of a log.
func bytesOf(l api.Log) int {
	n := 400 + len(l.Snap.Data) + 100*len(l.Entries)
	for _, e := range l.Entries {
		n += len(e.Data)
	}
	return n
}

// promised: does P7.3 say that there is room for it?
func promised(d *disk.Disk, l api.Log) bool { return 12*bytesOf(l) <= d.Size()*api.Sector }
