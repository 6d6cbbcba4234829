package wal_test

import (
	"bytes"
	"testing"

	"armoire/api"
	"armoire/disk"
	"armoire/wal"
)

// op is a thing that is done to a log.
type op struct {
	what string // append, sync, cut
	n    int    // bytes, or how many records are to go
}

// known is what the chapter says that there is, between two sessions or in one.
type known struct {
	all   [][]byte // each record that was appended, by its number
	first uint64
	cut   uint64 // the first one's number, if a Cut that was answered with ErrDown came to the disk
	safe  uint64 // the least Next that may be found
}

// fork: what is known, with a list of its own.
func (k known) fork() known {
	k.all = append([][]byte(nil), k.all...)
	return k
}

// bytesOf: n bytes that no other record of that number and session has, if there is room for that.
func bytesOf(n int, number uint64, session byte) []byte {
	b := make([]byte, n)
	for i := range b {
		b[i] = byte(i+1)*17 + byte(number)*59 + session*101
	}
	return b
}

// do does one thing, and tells whether the log goes on.
func (k *known) do(t *testing.T, l *wal.Log, o op, session byte) bool {
	t.Helper()
	e := api.OK
	switch o.what {
	case "append":
		b := bytesOf(o.n, l.Next(), session)
		if e = l.Append(b); e == api.ErrFull {
			return true
		}
		k.all = append(k.all, b)
	case "sync":
		if e = l.Sync(); e == api.OK {
			k.safe = l.Next()
		}
	case "cut":
		k.cut = min(l.First()+uint64(o.n), l.Next())
		if e = l.Cut(k.cut); e == api.OK {
			k.safe, k.first = l.Next(), k.cut
		}
	}
	if e != api.OK && e != api.ErrDown {
		t.Fatalf("P6.2: %v: %v", o, e)
	}
	if e == api.OK {
		k.told(t, l)
	}
	return e == api.OK
}

// told: a log that goes on tells all that is known.
func (k *known) told(t *testing.T, l *wal.Log) {
	t.Helper()
	if l.First() != k.first || l.Next() != uint64(len(k.all)) {
		t.Fatalf("P6.3: %d to %d; want %d to %d", l.First(), l.Next(), k.first, len(k.all))
	}
}

// again: opened anew without a fall a log has all, but no more of it is safe.
func (k *known) again(t *testing.T, d *disk.Disk) *wal.Log {
	t.Helper()
	l := opened(t, d)
	k.told(t, l)
	k.same(t, l)
	return l
}

// found: what is on the disk behind a fall may be there; from then on it is what is known.
func (k *known) found(t *testing.T, d *disk.Disk) *wal.Log {
	t.Helper()
	l := opened(t, d)
	first, next := l.First(), l.Next()
	if first != k.first && first != k.cut {
		t.Fatalf("P6.4: First: %d; want %d or %d", first, k.first, k.cut)
	}
	if next > uint64(len(k.all)) || next < k.safe || first != k.first && next != uint64(len(k.all)) {
		t.Fatalf("P6.4: %d to %d; First was %d, %d were safe, %d sent", first, next, k.first, k.safe, len(k.all))
	}
	k.same(t, l)
	k.all, k.first, k.cut, k.safe = k.all[:next:next], first, first, next
	return l
}

// same: each record is the one that was appended with its number.
func (k *known) same(t *testing.T, l *wal.Log) {
	t.Helper()
	list := l.Records()
	if uint64(len(list)) != l.Next()-l.First() {
		t.Fatalf("P6.3: %d to %d: %d records", l.First(), l.Next(), len(list))
	}
	for i, b := range list {
		if n := l.First() + uint64(i); !bytes.Equal(b, k.all[n]) {
			t.Fatalf("P6.4: the record %d: %v; want %v", n, b, k.all[n])
		}
	}
}
