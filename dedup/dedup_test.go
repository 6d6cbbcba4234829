package dedup_test

import (
	"bytes"
	"strings"
	"testing"

	"armoire/api"
	"armoire/dedup"
	"armoire/wire"
)

// step is a call, and what it has to be answered.
type step struct {
	client, seq uint64
	data, want  string
}

// P10.1: greater ones are done, the same one is told again, lesser ones are nothing; each client for itself.
func TestDo(t *testing.T) {
	m := &tape{}
	d := dedup.New(m)
	for i, s := range []step{
		{1, 1, "x", "1:x"},
		{1, 1, "x", "1:x"},
		{1, 1, "other", "1:x"}, // its number counts, not what it says
		{1, 4, "y", "2:y"},     // numbers may be left out
		{1, 3, "late", ""},
		{1, 1, "x", ""},
		{1, 0, "zero", ""},
		{1, 4, "y", "2:y"},
		{2, 4, "z", "3:z"},
		{2, 2, "late", ""},
		{1, 4, "", "2:y"},
		{2, 5, "", "4:"}, // to say nothing is to say something
		{2, 5, "v", "4:"},
		{3, greatest, "w", "5:w"},
		{3, greatest - 1, "late", ""},
		{3, greatest, "w", "5:w"},
		{greatest, 1, "u", "6:u"},
		{0, 1, "t", "7:t"}, // the chapter asks for no client's number above 0
		{0, 1, "t", "7:t"},
		{0, 0, "s", ""},
	} {
		if a := d.Do(call(s.client, s.seq, s.data)); string(a) != s.want {
			t.Errorf("P10.1: the call %d: %q; want %q", i, a, s.want)
		}
	}
	if string(m.done) != "xyzwut" || m.n != 7 {
		t.Errorf("P10.1: done: %q, %d of them; want xyzwut, 7", m.done, m.n)
	}
}

// P10.1: a client that is new begins above 0; a call that is not done leaves nothing behind.
func TestNewClient(t *testing.T) {
	m := &tape{}
	d := dedup.New(m)
	empty := d.Save()
	for _, client := range []uint64{0, 1, greatest} {
		if a := d.Do(call(client, 0, "x")); len(a) > 0 {
			t.Errorf("P10.1: the Seq 0 of the new client %d: %q", client, a)
		}
		untold(t, d, client, 0)
		untold(t, d, client, 1)
	}
	if m.n > 0 || !bytes.Equal(d.Save(), empty) {
		t.Errorf("P10.1: %d are done of none, Save: % x; want % x", m.n, d.Save(), empty)
	}
	if a := d.Do(call(1, 1, "x")); string(a) != "1:x" {
		t.Errorf("P10.1: the Seq 1 of a new client: %q", a)
	}
}

// P10.1: of bytes that are no call nothing is done, nor answered.
func TestOtherBytes(t *testing.T) {
	d, m := made()
	whole := call(7, 300, "some data")
	others := [][]byte{nil, {}, append(bytes.Clone(whole), 0), {0x80, 0, 1, 0}, {7, 0x8a, 0, 0}, {7, 10, 0x80, 0}, call(7, 10, strings.Repeat("x", maxText+1))}
	for k := range whole {
		others = append(others, whole[:k])
	}
	for _, b := range others {
		if _, e := wire.TakeCall(b); e == api.OK {
			t.Fatalf("% x are a call", b)
		}
		if a := d.Do(b); len(a) > 0 {
			t.Errorf("P10.1: Do of % x: %q", b, a)
		}
	}
	isMade(t, d, m)
	if a := d.Do(whole); string(a) != "6:some data" {
		t.Errorf("P10.1: Do of a call, behind bytes that are none: %q", a)
	}
}

// P10.1: what wire reads at most is done.
func TestLongData(t *testing.T) {
	m := &tape{}
	d := dedup.New(m)
	data := strings.Repeat("x", maxText)
	for range 2 {
		if a := d.Do(call(1, 1, data)); string(a) != "1:"+data {
			t.Errorf("P10.1: %d bytes are answered %d", maxText, len(a))
		}
	}
	if string(m.done) != data {
		t.Errorf("P10.1: of %d bytes %d are done", maxText, len(m.done))
	}
}

// P10.1: Told is of the last call alone.
func TestTold(t *testing.T) {
	d, m := made()
	isMade(t, d, m)
	for _, x := range []struct{ client, seq uint64 }{{7, 2}, {7, 8}, {7, 10}, {7, 0}, {7, 5}, {300, 9}, {300, 4}, {0, 0}, {0, 2}, {1, 0}, {1, 1}, {greatest, 0}, {greatest, greatest - 1}, {greatest - 1, greatest}} {
		untold(t, d, x.client, x.seq)
	}
	d.Do(call(7, 3, "late"))
	d.Do(call(7, 9, "again"))
	isMade(t, d, m)
	d.Do(call(7, 10, "f"))
	untold(t, d, 7, 9)
	tells(t, d, 7, 10, "6:f")
}

// P10.1: a call that was answered no bytes is done, and told.
func TestNoAnswer(t *testing.T) {
	done := 0
	d := dedup.New(scripted{do: func([]byte) []byte { done++; return nil }, save: func() []byte { return nil }})
	for range 3 {
		if a := d.Do(call(4, 2, "x")); len(a) > 0 {
			t.Errorf("P10.1: Do: %q", a)
		}
	}
	tells(t, d, 4, 2, "")
	untold(t, d, 4, 0)
	if done != 1 {
		t.Errorf("P10.1: a call without an answer is done %d times", done)
	}
}

// P10.2: of nil, and R1: of one over nothing.
func TestNil(t *testing.T) {
	saved, _ := made()
	b := saved.Save()
	var none *dedup.Machine
	for i, d := range []*dedup.Machine{none, {}, dedup.New(nil)} {
		for range 2 {
			if a := d.Do(call(1, 1, "x")); len(a) > 0 {
				t.Errorf("P10.2: nil %d: Do: %q", i, a)
			}
			untold(t, d, 1, 1)
			untold(t, d, 0, 0)
			if s := d.Save(); len(s) > 0 {
				t.Errorf("P10.2: nil %d: Save: % x", i, s)
			}
			for _, x := range [][]byte{b, nil, {0, 0}} {
				if d.Load(x) {
					t.Errorf("P10.2: nil %d: Load of % x", i, x)
				}
			}
		}
	}
}
