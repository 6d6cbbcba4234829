package lock_test

import (
	"bytes"
	"math"
	"slices"
	"testing"

	"armoire/api"
	"armoire/lock"
)

// span is the keys from from on, below to.
func span(from, to string) api.Span { return api.Span{From: []byte(from), To: []byte(to)} }

// read is a lock that reads keys.
func read(txn uint64, keys ...string) api.Held {
	h := api.Held{Txn: txn}
	for _, k := range keys {
		h.Keys = append(h.Keys, []byte(k))
	}
	return h
}

// over is a lock that reads spans.
func over(txn uint64, spans ...api.Span) api.Held { return api.Held{Txn: txn, Spans: spans} }

// write is a lock that writes keys; each second one goes.
func write(txn uint64, keys ...string) api.Held {
	h := api.Held{Txn: txn}
	for i, k := range keys {
		w := api.Write{Key: []byte(k), Value: []byte("of " + k)}
		if i%2 == 1 {
			w = api.Write{Key: []byte(k), Drop: true}
		}
		h.Writes = append(h.Writes, w)
	}
	return h
}

// join is one lock of the first one's transaction that does what all of these do.
func join(first api.Held, more ...api.Held) api.Held {
	for _, h := range more {
		first.Keys = append(first.Keys, h.Keys...)
		first.Spans = append(first.Spans, h.Spans...)
		first.Writes = append(first.Writes, h.Writes...)
	}
	return first
}

func sameSpan(a, b api.Span) bool { return bytes.Equal(a.From, b.From) && bytes.Equal(a.To, b.To) }

func sameWrite(a, b api.Write) bool {
	return bytes.Equal(a.Key, b.Key) && bytes.Equal(a.Value, b.Value) && a.Drop == b.Drop
}

// same: are two locks the same?
func same(a, b api.Held) bool {
	return a.Txn == b.Txn && slices.EqualFunc(a.Keys, b.Keys, bytes.Equal) && slices.EqualFunc(a.Spans, b.Spans, sameSpan) && slices.EqualFunc(a.Writes, b.Writes, sameWrite)
}

// made is a table with these locks, which do not disturb each other.
func made(t *testing.T, list ...api.Held) *lock.Table {
	t.Helper()
	x := lock.New()
	for _, h := range list {
		if e := x.Put(h); e != api.OK {
			t.Fatalf("P15.1: Put of %v: %v", h, e)
		}
	}
	return x
}

// holds looks whether a table has just these locks, by all calls that tell some; they rise.
func holds(t *testing.T, x *lock.Table, want ...api.Held) {
	t.Helper()
	if l := x.All(); !slices.EqualFunc(l, want, same) {
		t.Errorf("P15.2: All: %v; want %v", l, want)
	}
	var txns []uint64
	for _, h := range want {
		txns = append(txns, h.Txn)
		if g, is := x.Get(h.Txn); !is || !same(g, h) {
			t.Errorf("P15.1: Get(%d): %v, %v; want %v", h.Txn, g, is, h)
		}
	}
	if l := x.Txns(); !slices.Equal(l, txns) {
		t.Errorf("P15.2: Txns: %v; want %v", l, txns)
	}
	for _, txn := range []uint64{0, 1, 2, 3, 4, 5, 1 << 63, math.MaxUint64} {
		if g, is := x.Get(txn); is != slices.Contains(txns, txn) || !is && !same(g, api.Held{}) {
			t.Errorf("P15.1: Get(%d): %v, %v", txn, g, is)
		}
	}
}

// three is three locks that do not disturb each other.
func three() []api.Held {
	return []api.Held{
		join(read(2, "b", "a", "b"), over(2, span("m", "p"), span("", "a"))),
		write(4, "z", "c"),
		join(read(5, "q", "e"), over(5, span("q", "r")), write(5, "e", "d", "f")),
	}
}

// P15.1: what is put is there as it was put, whatever order the transactions come in.
func TestPut(t *testing.T) {
	l := three()
	for _, order := range [][]int{{0, 1, 2}, {0, 2, 1}, {1, 0, 2}, {1, 2, 0}, {2, 0, 1}, {2, 1, 0}} {
		x := lock.New()
		for _, at := range order {
			if e := x.Put(l[at]); e != api.OK {
				t.Errorf("P15.1: Put of %v: %v", l[at], e)
			}
		}
		holds(t, x, l...)
	}
	x := lock.New()
	holds(t, x)
	edges := []api.Held{write(1, "a"), read(1<<32, "b"), over(1<<63-1, span("c", "d")), write(1<<63, "e"), {Txn: math.MaxUint64}}
	for _, h := range slices.Backward(edges) {
		if e := x.Put(h); e != api.OK {
			t.Errorf("P15.1: Put of %v: %v", h, e)
		}
	}
	holds(t, x, edges...)
}

// P15.1: what is refused, for one reason each, and, with more than one, for the first one; nothing is changed.
func TestRefused(t *testing.T) {
	x := made(t, three()...)
	for _, r := range []struct {
		what string
		h    api.Held
		want api.Errno
	}{
		{"no transaction", api.Held{}, api.ErrArg},
		{"no transaction, but keys", read(0, "y"), api.ErrArg},
		{"no transaction, and it is locked", write(0, "a"), api.ErrArg},
		{"one that has a lock", api.Held{Txn: 2}, api.ErrTwice},
		{"the last one that has a lock", write(5, "y"), api.ErrTwice},
		{"one that has a lock, of what is its own", write(4, "c", "z"), api.ErrTwice},
		{"one that has a lock, and it is locked", write(4, "a"), api.ErrTwice},
		{"a key that is written, read", read(3, "c"), api.ErrLocked},
		{"a key that goes, read", read(3, "d"), api.ErrLocked},
		{"a key that is written, in a span", over(3, span("y", "")), api.ErrLocked},
		{"a key that is written, written", write(3, "f"), api.ErrLocked},
		{"a key that is read, written", write(3, "q"), api.ErrLocked},
		{"a key that is read, and is to go", write(3, "y", "b"), api.ErrLocked},
		{"a key of a span, written", write(3, "n"), api.ErrLocked},
		{"a key of a span without a From, written", write(3, "Z"), api.ErrLocked},
		{"all but the last one are free", join(read(3, "g", "h"), over(3, span("g", "k")), write(3, "g", "h", "c")), api.ErrLocked},
	} {
		if e := x.May(r.h); e != r.want {
			t.Errorf("P15.1: %s: May: %v; want %v", r.what, e, r.want)
		}
		if e := x.Put(r.h); e != r.want {
			t.Errorf("P15.1: %s: Put: %v; want %v", r.what, e, r.want)
		}
		holds(t, x, three()...)
	}
}

// P15.1: May is asked, and nothing is there of it.
func TestMayPutsNothing(t *testing.T) {
	x := lock.New()
	for range 2 {
		if e := x.May(write(1, "a")); e != api.OK {
			t.Errorf("P15.1: May: %v", e)
		}
		holds(t, x)
	}
}

// P15.1: what is dropped is told as it was put, and is in nobody's way any more; what is not there is not dropped.
func TestDrop(t *testing.T) {
	l := three()
	for at, h := range l {
		x := made(t, l...)
		rest := slices.Delete(slices.Clone(l), at, at+1)
		for _, txn := range []uint64{0, 1, 3, 6, 1<<32 + 2, math.MaxUint64} {
			if g, is := x.Drop(txn); is || !same(g, api.Held{}) {
				t.Errorf("P15.1: Drop(%d): %v, %v", txn, g, is)
			}
			holds(t, x, l...)
		}
		if g, is := x.Drop(h.Txn); !is || !same(g, h) {
			t.Errorf("P15.1: Drop(%d): %v, %v; want %v", h.Txn, g, is, h)
		}
		holds(t, x, rest...)
		if g, is := x.Drop(h.Txn); is || !same(g, api.Held{}) {
			t.Errorf("P15.1: Drop(%d) once more: %v, %v", h.Txn, g, is)
		}
		holds(t, x, rest...)
		h.Txn = 3
		if e := x.Put(h); e != api.OK {
			t.Errorf("P15.1: another one's, behind Drop: %v", e)
		}
	}
}

// P15.1: a transaction may have a lock again behind Drop.
func TestPutAgain(t *testing.T) {
	x := made(t, write(1, "a"))
	x.Drop(1)
	if e := x.Put(read(1, "b")); e != api.OK {
		t.Errorf("P15.1: Put behind Drop: %v", e)
	}
	holds(t, x, read(1, "b"))
}

// P15.2: of a nil table; P15.1: ErrNil is ahead of all.
func TestNil(t *testing.T) {
	var x *lock.Table
	for _, h := range append(three(), api.Held{}) {
		if e := x.May(h); e != api.ErrNil {
			t.Errorf("P15.1: May of nil: %v", e)
		}
		if e := x.Put(h); e != api.ErrNil {
			t.Errorf("P15.1: Put of nil: %v", e)
		}
		if g, is := x.Drop(h.Txn); is || !same(g, api.Held{}) {
			t.Errorf("P15.2: Drop of nil: %v, %v", g, is)
		}
		if g, is := x.Get(h.Txn); is || !same(g, api.Held{}) {
			t.Errorf("P15.2: Get of nil: %v, %v", g, is)
		}
	}
	for _, s := range []api.Span{{}, span("a", "b"), span("b", "a"), span("a", "")} {
		if !x.Free(s.From) || !x.Clear(s) || x.Touches(s) {
			t.Errorf("P15.2: nil, from %q to %q: Free %v, Clear %v, Touches %v", s.From, s.To, x.Free(s.From), x.Clear(s), x.Touches(s))
		}
	}
	if len(x.Txns()) != 0 || len(x.All()) != 0 {
		t.Errorf("P15.2: nil has %v, %v", x.Txns(), x.All())
	}
}

// R1: a table that New did not make is one without a lock.
func TestZero(t *testing.T) {
	x := new(lock.Table)
	holds(t, x)
	if _, is := x.Drop(1); is || !x.Free(nil) || !x.Clear(api.Span{}) || x.Touches(api.Span{}) {
		t.Error("R1: a zero table has something")
	}
	for _, h := range three() {
		if e := x.Put(h); e != api.OK {
			t.Errorf("R1: Put into a zero table: %v", e)
		}
	}
	holds(t, x, three()...)
}
