package lock_test

import (
	"bytes"
	"slices"
	"testing"

	"armoire/api"
	"armoire/lock"
)

// rich has some of all that a lock may have.
func rich(txn uint64) api.Held {
	return join(read(txn, "b", "a", ""), over(txn, span("m", "p"), span("q", "")), write(txn, "c", "d", "e"))
}

// bytesOf is all lists of bytes of a lock.
func bytesOf(h api.Held) [][]byte {
	l := slices.Clone(h.Keys)
	for _, s := range h.Spans {
		l = append(l, s.From, s.To)
	}
	for _, w := range h.Writes {
		l = append(l, w.Key, w.Value)
	}
	return l
}

// roomy is l with room behind its end, in which marks stand.
func roomy[T any](l []T, mark T) []T {
	return append(slices.Clone(l), mark, mark)[:len(l)]
}

// room is what stands behind the end of what was made by roomy.
func room[T any](l []T) []T { return l[len(l) : len(l)+2] }

// withRoom is the same lock, each list with room behind its end.
func withRoom(h api.Held) api.Held {
	h.Keys, h.Spans, h.Writes = roomy(h.Keys, []byte("room")), roomy(h.Spans, span("room", "room")), roomy(h.Writes, api.Write{Drop: true})
	for i, key := range h.Keys {
		h.Keys[i] = roomy(key, 77)
	}
	for i, s := range h.Spans {
		h.Spans[i] = api.Span{From: roomy(s.From, 77), To: roomy(s.To, 77)}
	}
	for i, w := range h.Writes {
		h.Writes[i].Key, h.Writes[i].Value = roomy(w.Key, 77), roomy(w.Value, 77)
	}
	return h
}

// whole: is what was made with room as it was, with the room?
func whole(h, was api.Held) bool {
	for _, b := range bytesOf(h) {
		if !bytes.Equal(room(b), []byte{77, 77}) {
			return false
		}
	}
	for i := range 2 {
		if string(room(h.Keys)[i]) != "room" || !sameSpan(room(h.Spans)[i], span("room", "room")) || !sameWrite(room(h.Writes)[i], api.Write{Drop: true}) {
			return false
		}
	}
	return same(h, was)
}

// fill writes into a list, and the room behind its end.
func fill[T any](l []T, v T) {
	l = l[:cap(l)]
	for i := range l {
		l[i] = v
	}
}

// spoil writes into all that a lock has.
func spoil(h api.Held) {
	for _, b := range bytesOf(h) {
		fill(b, 99)
	}
	fill(h.Keys, []byte("spoilt"))
	fill(h.Spans, span("spoilt", "spoilu"))
	fill(h.Writes, api.Write{Key: []byte("spoilt")})
}

// apart: does no list of bytes share memory with another one? Each is written into in its turn.
func apart(l [][]byte) bool {
	for i, b := range l {
		fill(b, byte(100+i))
	}
	for i, b := range l {
		if !bytes.Equal(b, bytes.Repeat([]byte{byte(100 + i)}, len(b))) {
			return false
		}
	}
	return true
}

// R3: what is handed in, with the room behind its ends, is not changed.
func TestArgumentsStay(t *testing.T) {
	x := made(t, read(1, "y"))
	for _, h := range []api.Held{rich(2), rich(2), rich(3), rich(0), rich(1), write(4, "y"), over(5, span("a", ""))} {
		g, was := withRoom(h), withRoom(h)
		e := x.May(g)
		if f := x.Put(g); e != f || !whole(g, was) {
			t.Errorf("R3: May, Put: %v, %v: %v", e, f, g)
		}
	}
	holds(t, x, read(1, "y"), rich(2))
	key, s := roomy([]byte("c"), 77), api.Span{From: roomy([]byte("a"), 77), To: roomy([]byte("n"), 77)}
	if x.Free(key) || x.Clear(s) || !x.Touches(s) {
		t.Error("P15.2: Free, Clear, Touches")
	}
	if string(key) != "c" || !sameSpan(s, span("a", "n")) {
		t.Errorf("R3: what was asked for is changed: %q, %v", key, s)
	}
	for _, b := range [][]byte{key, s.From, s.To} {
		if !bytes.Equal(room(b), []byte{77, 77}) {
			t.Errorf("R3: the room behind what was asked for is changed: %v", room(b))
		}
	}
}

// R3: what is handed in is not kept.
func TestArgumentsAreNotKept(t *testing.T) {
	x := lock.New()
	h := withRoom(rich(2))
	x.May(h)
	x.Put(h)
	spoil(h)
	holds(t, x, rich(2))
	if x.Free([]byte("c")) || !x.Free([]byte("spoilt")) || x.Touches(span("f", "m")) {
		t.Error("R3: it hangs on what was handed in")
	}
}

// R3: what is handed out is new memory, each time; no two lists of one answer share any.
func TestAnswersAreNew(t *testing.T) {
	x := made(t, read(1, "a", "b"), rich(2))
	for range 2 {
		for _, h := range x.All() {
			spoil(h)
		}
		fill(x.All(), api.Held{Txn: 99})
		fill(x.Txns(), 99)
		h, _ := x.Get(2)
		spoil(h)
		holds(t, x, read(1, "a", "b"), rich(2))
	}
	var l [][]byte
	for _, h := range x.All() {
		l = append(l, bytesOf(h)...)
	}
	if !apart(l) {
		t.Error("R3: two lists of All share some")
	}
	if h, _ := x.Get(2); !apart(bytesOf(h)) {
		t.Error("R3: two lists of Get share some")
	}
	h, _ := x.Get(2)
	if g, _ := x.Get(2); !apart(append(bytesOf(h), bytesOf(g)...)) {
		t.Error("R3: two answers of Get share some")
	}
	holds(t, x, read(1, "a", "b"), rich(2))
	if h, _ = x.Drop(2); !apart(bytesOf(h)) {
		t.Error("R3: two lists of Drop share some")
	}
	spoil(h)
	holds(t, x, read(1, "a", "b"))
}

// R3: what was told stays, whatever is done then.
func TestToldStays(t *testing.T) {
	x := made(t, rich(2), read(5, "a"), read(7, "a"))
	all, txns := x.All(), x.Txns()
	h, _ := x.Get(2)
	g, _ := x.Drop(2)
	x.Put(write(1, "z"))
	x.Put(write(3, "y"))
	x.Drop(5)
	if !slices.EqualFunc(all, []api.Held{rich(2), read(5, "a"), read(7, "a")}, same) || !slices.Equal(txns, []uint64{2, 5, 7}) || !same(h, rich(2)) || !same(g, rich(2)) {
		t.Errorf("R3: what was told: %v, %v, %v, %v", all, txns, h, g)
	}
}

// R3: nil and no bytes are the same.
func TestNilIsEmpty(t *testing.T) {
	x := made(t, write(1, ""))
	for _, key := range [][]byte{nil, {}} {
		if x.Free(key) || x.Clear(api.Span{From: key, To: key}) || !x.Touches(api.Span{From: key, To: key}) {
			t.Errorf("R3: %#v is not as no bytes", key)
		}
		for _, h := range []api.Held{{Txn: 2, Keys: [][]byte{key}}, {Txn: 2, Spans: []api.Span{{From: key, To: key}}}, {Txn: 2, Writes: []api.Write{{Key: key}}}} {
			if e := x.May(h); e != api.ErrLocked {
				t.Errorf("R3: May of %#v: %v", h, e)
			}
		}
	}
	h := api.Held{Txn: 2, Keys: [][]byte{}, Spans: []api.Span{}, Writes: []api.Write{}}
	if e := x.Put(h); e != api.OK {
		t.Errorf("R3: Put of empty lists: %v", e)
	}
	holds(t, x, write(1, ""), api.Held{Txn: 2})
}
