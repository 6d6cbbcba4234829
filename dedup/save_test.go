package dedup_test

import (
	"bytes"
	"slices"
	"strings"
	"testing"

	"armoire/code"
	"armoire/dedup"
)

// P10.2: what was saved is there again, and goes on.
func TestLoad(t *testing.T) {
	d, _ := made()
	m := &tape{}
	f := dedup.New(m)
	if !f.Load(d.Save()) {
		t.Fatal("P10.2: Load of what Save told: false")
	}
	isMade(t, f, m)
	for i, s := range []step{{7, 9, "e", "5:e"}, {7, 8, "late", ""}, {300, 5, "d", "4:d"}, {5, 0, "zero", ""}, {5, 1, "f", "6:f"}, {7, 10, "g", "7:g"}, {0, 1, "c", "3:c"}} {
		if a := f.Do(call(s.client, s.seq, s.data)); string(a) != s.want {
			t.Errorf("P10.2: behind Load, the call %d: %q; want %q", i, a, s.want)
		}
	}
	if string(m.done) != "abcdefg" {
		t.Errorf("P10.2: behind Load, done: %q", m.done)
	}
}

// P10.2: all is as it was then: what came behind Save, or was there ahead of Load, is gone.
func TestLoadOver(t *testing.T) {
	d, m := made()
	empty := dedup.New(&tape{}).Save()
	b := d.Save()
	d.Do(call(8, 1, "x"))
	d.Do(call(7, 10, "y"))
	if !d.Load(b) {
		t.Fatal("P10.2: Load over what came behind: false")
	}
	isMade(t, d, m)
	untold(t, d, 8, 1)
	untold(t, d, 7, 10)
	if a := d.Do(call(8, 1, "z")); string(a) != "6:z" {
		t.Errorf("P10.2: a client that is new again: %q", a)
	}
	if !d.Load(empty) || m.n != 0 || !bytes.Equal(d.Save(), empty) {
		t.Errorf("P10.2: Load of one that did nothing: Save: % x; want % x", d.Save(), empty)
	}
	untold(t, d, 7, 9)
	if a := d.Do(call(7, 1, "a")); string(a) != "1:a" {
		t.Errorf("P10.2: a client of one that did nothing: %q", a)
	}
}

// laid is bytes as Save lays them: clients with their calls, and the state below.
func laid(state string, clients ...step) []byte {
	b := code.Num(uint64(len(clients)))
	for _, s := range clients {
		b = slices.Concat(b, code.Num(s.client), code.Num(s.seq), code.Text([]byte(s.want)))
	}
	return append(b, code.Text([]byte(state))...)
}

// P10.2: Save lays the clients as they rise, whatever the order in which they came, and each time.
func TestSaveRises(t *testing.T) {
	d, _ := made()
	want := laid("\x05abcde", step{client: 0, seq: 1, want: "3:c"}, step{client: 7, seq: 9, want: "5:e"}, step{client: 300, seq: 5, want: "4:d"}, step{client: greatest, seq: greatest, want: "2:b"})
	for range 20 {
		if b := d.Save(); !bytes.Equal(b, want) {
			t.Fatalf("P10.2: Save: % x; want % x", b, want)
		}
	}
	many := []uint64{9, 2, 900, 0, 77, 1 << 40, 13, 5, greatest, 128, 127, 4}
	up := dedup.New(telling([]byte("a")))
	down := dedup.New(telling([]byte("a")))
	for i, client := range many {
		up.Do(call(client, 1, ""))
		down.Do(call(many[len(many)-1-i], 1, ""))
	}
	if a, b := up.Save(), down.Save(); !bytes.Equal(a, b) {
		t.Errorf("P10.2: Save hangs on the order of clients: % x and % x", a, b)
	}
}

// refused looks whether Load refuses b, and changes nothing.
func refused(t *testing.T, what string, b []byte) {
	t.Helper()
	d, m := made()
	if d.Load(b) {
		t.Errorf("P10.2: %s: Load takes % x", what, b)
	}
	isMade(t, d, m)
	if a := d.Do(call(7, 10, "f")); string(a) != "6:f" {
		t.Errorf("P10.2: %s: behind Load, Do: %q", what, a)
	}
}

// P10.2: other bytes are refused, and R4: nothing was changed, below neither.
func TestLoadRefuses(t *testing.T) {
	two := func(one, other uint64) []byte {
		return laid("\x02ab", step{client: one, seq: 1}, step{client: other, seq: 1})
	}
	d, _ := made()
	b := d.Save()
	refused(t, "none", nil)
	for k := range b {
		refused(t, "a beginning", b[:k])
	}
	refused(t, "bytes behind", append(bytes.Clone(b), 0))
	refused(t, "bytes behind", append(bytes.Clone(b), b...))
	refused(t, "clients that fall", two(3, 2))
	refused(t, "clients that fall to 0", two(1, 0))
	refused(t, "a client twice", two(3, 3))
	refused(t, "the client 0 twice", two(0, 0))
	refused(t, "a Seq 0", laid("\x02ab", step{client: 3}))
	refused(t, "a Seq 0 that has an answer", laid("\x02ab", step{client: 0, want: "x"}))
	refused(t, "a count above what is there", append([]byte{2}, laid("\x02ab", step{client: 3, seq: 1})[1:]...))
	refused(t, "a count below what is there", append([]byte{1}, two(2, 3)[1:]...))
	refused(t, "a long form", append([]byte{0x80, 0}, laid("\x02ab")[1:]...))
	for _, count := range []uint64{5, 1 << 20, 1<<31 - 1, 1 << 31, 1 << 63, greatest} {
		refused(t, "a count", append(code.Num(count), 1, 1, 0))
		refused(t, "an answer's length", slices.Concat([]byte{1, 1, 1}, code.Num(count), []byte{9, 1}))
		refused(t, "a state's length", slices.Concat([]byte{0}, code.Num(count), []byte{9}))
	}
	if two := two(2, 3); !d.Load(two) || !bytes.Equal(d.Save(), two) {
		t.Errorf("P10.2: two clients that rise: Save: % x; want % x", d.Save(), two)
	}
}

// P10.2: what is refused below is refused.
func TestRefusedBelow(t *testing.T) {
	refused(t, "a state that is none", laid("!ab", step{client: 3, seq: 1}))
	refused(t, "a state without bytes", laid("", step{client: 3, seq: 1}))
}

// P10.2: a machine below that takes what it would not tell does not make Load take it; it has again what it had.
func TestLaxBelow(t *testing.T) {
	state := []byte("own")
	d := dedup.New(scripted{
		do:   func([]byte) []byte { return []byte("a") },
		save: func() []byte { return bytes.Clone(state) },
		load: func(b []byte) bool { state = bytes.Clone(b[:min(len(b), 4)]); return true },
	})
	d.Do(call(1, 1, "x"))
	was := d.Save()
	for _, b := range [][]byte{laid("other"), laid("other", step{client: 1, seq: 2}), laid(strings.Repeat("x", 300))} {
		if d.Load(b) || !bytes.Equal(d.Save(), was) || string(state) != "own" {
			t.Errorf("P10.2: Load of % x: what is below has %q, Save: % x; want % x", b, state, d.Save(), was)
		}
	}
	tells(t, d, 1, 1, "a")
	if b := laid("mine", step{client: 2, seq: 2}); !d.Load(b) || !bytes.Equal(d.Save(), b) || string(state) != "mine" {
		t.Errorf("P10.2: Load of % x: what is below has %q, Save: % x", b, state, d.Save())
	}
}

// P10.2: what is below is told a state only where all else of the bytes is right.
func TestBelowIsLeftAlone(t *testing.T) {
	var loaded []string
	d := dedup.New(scripted{
		save: func() []byte { return []byte("s") },
		load: func(b []byte) bool { loaded = append(loaded, string(b)); return true },
	})
	good := laid("s", step{client: 1, seq: 1, want: "a"})
	for k := range good {
		d.Load(good[:k])
	}
	d.Load(append(bytes.Clone(good), 0))
	d.Load(laid("s", step{client: 1}))
	d.Load(laid("s", step{client: 1, seq: 1}, step{client: 1, seq: 2}))
	if len(loaded) > 0 {
		t.Errorf("P10.2: what is below is told to load %q", loaded)
	}
	if !d.Load(good) || !slices.Equal(loaded, []string{"s"}) {
		t.Errorf("P10.2: of right bytes what is below is told to load %q", loaded)
	}
}

// P10.2: answers, states and how many clients there are have no bounds of wire's.
func TestGreat(t *testing.T) {
	long := strings.Repeat("x", maxText+1)
	m := &tape{}
	d := dedup.New(m)
	for client := range uint64(6000) {
		d.Do(call(client, 1, ""))
	}
	d.Do(call(1, 2, long[:maxText]))
	d.Do(call(2, 2, long[:maxText]))
	n := &tape{}
	f := dedup.New(n)
	if !f.Load(d.Save()) || !bytes.Equal(f.Save(), d.Save()) || !bytes.Equal(n.done, m.done) {
		t.Errorf("P10.2: Load of %d bytes", len(d.Save()))
	}
	tells(t, f, 5999, 1, "6000:")
	tells(t, f, 2, 2, "6002:"+long[:maxText])

	d = dedup.New(telling([]byte(long)))
	d.Do(call(1, 1, ""))
	f = dedup.New(telling(nil))
	if !f.Load(d.Save()) {
		t.Errorf("P10.2: Load of an answer of %d bytes: false", len(long))
	}
	tells(t, f, 1, 1, long)
}
