package dedup_test

import (
	"bytes"
	"testing"

	"armoire/dedup"
)

// spoil writes over bytes, and over the room behind them.
func spoil(b []byte) {
	b = b[:cap(b)]
	for i := range b {
		b[i] = '#'
	}
}

// roomy is b with room behind its end, and all of it.
func roomy(b []byte) (part, all []byte) {
	all = append(bytes.Clone(b), "room"...)
	return all[:len(b)], all
}

// R3: what is handed in is not changed, with the room behind its end.
func TestArgumentsStay(t *testing.T) {
	d, _ := made()
	for _, b := range [][]byte{call(7, 10, "f"), call(7, 10, "f"), call(7, 1, "f"), {1, 2}} {
		part, all := roomy(b)
		d.Do(part)
		if string(all) != string(b)+"room" {
			t.Errorf("R3: Do turns % x to % x", b, all)
		}
	}
	saved, _ := made()
	for _, b := range [][]byte{saved.Save(), saved.Save()[:9], laid("!")} {
		part, all := roomy(b)
		d.Load(part)
		if string(all) != string(b)+"room" {
			t.Errorf("R3: Load turns % x to % x", b, all)
		}
	}
}

// R3: what is handed in is not kept.
func TestArgumentsAreNotKept(t *testing.T) {
	held := [][]byte{}
	d := dedup.New(scripted{
		do:   func(command []byte) []byte { held = append(held, command); return command },
		save: func() []byte { return []byte("s") },
		load: func(b []byte) bool { held = append(held, b); return true },
	})
	x := call(1, 1, "hat")
	d.Do(x)
	spoil(x)
	tells(t, d, 1, 1, "hat")
	b := laid("s", step{client: 2, seq: 2, want: "coat"})
	if !d.Load(b) {
		t.Fatal("P10.2: Load: false")
	}
	spoil(b)
	tells(t, d, 2, 2, "coat")
	if len(held) != 2 || string(held[0]) != "hat" || string(held[1]) != "s" {
		t.Errorf("R3: what is below has memory of arguments: %q", held)
	}
}

// R3: what is handed out is new memory, each time.
func TestAnswersAreNew(t *testing.T) {
	d, m := made()
	for range 2 {
		spoil(d.Do(call(7, 9, "e")))
		spoil(d.Save())
		for _, x := range []struct{ client, seq uint64 }{{7, 9}, {greatest, greatest}, {0, 1}, {300, 5}} {
			a, _ := d.Told(x.client, x.seq)
			spoil(a)
		}
		isMade(t, d, m)
	}
	spoil(d.Do(call(7, 10, "f")))
	tells(t, d, 7, 10, "6:f")
	f := dedup.New(&tape{})
	f.Load(d.Save())
	a, _ := f.Told(7, 10)
	spoil(a)
	tells(t, f, 7, 10, "6:f")
	tells(t, d, 7, 10, "6:f")
}

// A machine below may tell its own memory: what was kept of it stays, and nobody writes into it.
func TestBelowKeepsItsMemory(t *testing.T) {
	own := []byte("first")
	d := dedup.New(telling(own))
	spoil(d.Do(call(1, 1, "")))
	if string(own) != "first" {
		t.Errorf("R3: what is below has %q", own)
	}
	copy(own, "other")
	tells(t, d, 1, 1, "first")
	if a := d.Do(call(1, 1, "")); string(a) != "first" {
		t.Errorf("P10.1: what was answered is %q now", a)
	}
}

// R2: a machine hangs on what was done with it alone.
func TestTwoMachines(t *testing.T) {
	d, m := made()
	f, n := made()
	g := dedup.New(&tape{})
	g.Load(d.Save())
	d.Do(call(7, 10, "x"))
	d.Do(call(1, 1, "y"))
	isMade(t, f, n)
	tells(t, g, 7, 9, "5:e")
	untold(t, g, 1, 1)
	g.Do(call(300, 6, "z"))
	tells(t, d, 300, 5, "4:d")
	if string(m.done) != "abcdexy" {
		t.Errorf("R2: done: %q", m.done)
	}
}
