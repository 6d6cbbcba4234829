package dedup_test

import (
	"bytes"
	"math/rand/v2"
	"testing"

	"armoire/dedup"
)

// What follows: a call that is done twice is done once. Whatever calls come, however often, with the machine laid away and taken up at any time: as the chapter's words have it.
func TestFollows(t *testing.T) {
	r := rand.New(rand.NewPCG(10, 1))
	for range 200 {
		m, model := &tape{}, &tape{}
		d := dedup.New(m)
		seqs, answers := map[uint64]uint64{}, map[uint64]string{}
		for range 100 {
			client, seq, data := uint64(r.IntN(4)), uint64(r.IntN(8)), string(some(r, 4))
			want := ""
			switch {
			case seq > seqs[client]:
				seqs[client], answers[client] = seq, string(model.Do([]byte(data)))
				want = answers[client]
			case seq == seqs[client]:
				want = answers[client]
			}
			if a := d.Do(call(client, seq, data)); string(a) != want {
				t.Fatalf("P10.1: the Seq %d of the client %d: %q; want %q", seq, client, a, want)
			}
			if r.IntN(8) == 0 {
				b := d.Save()
				m = &tape{done: some(r, 9), n: r.IntN(5)}
				d = dedup.New(m)
				if !d.Load(b) || !bytes.Equal(d.Save(), b) {
					t.Fatalf("P10.2: Load of % x; Save then: % x", b, d.Save())
				}
			}
			if m.n != model.n || !bytes.Equal(m.done, model.done) {
				t.Fatalf("P10.1: done: %q; want %q", m.done, model.done)
			}
			agree(t, d, seqs, answers)
		}
	}
}

// agree looks whether d tells the last call of each client, and no other one.
func agree(t *testing.T, d *dedup.Machine, seqs map[uint64]uint64, answers map[uint64]string) {
	t.Helper()
	for client := range uint64(5) {
		for seq := range uint64(9) {
			a, is := d.Told(client, seq)
			want := seq > 0 && seq == seqs[client]
			if is != want || is && string(a) != answers[client] || !is && len(a) > 0 {
				t.Fatalf("P10.1: Told(%d, %d): %q, %v; want %q, %v", client, seq, a, is, answers[client], want)
			}
		}
	}
}

// P10.2: of any bytes: false, and all is as it was, or true, and these are Save's bytes.
func TestAnyBytes(t *testing.T) {
	r := rand.New(rand.NewPCG(10, 2))
	d, m := made()
	good := d.Save()
	taken, left := 0, 0
	for round := range 60000 {
		b := some(r, 12)
		if round%8 > 0 {
			b = turned(good, r)
		}
		was, done, n := d.Save(), bytes.Clone(m.done), m.n
		switch is := d.Load(b); {
		case is && !bytes.Equal(d.Save(), b):
			t.Fatalf("P10.2: Load takes % x, of which Save tells % x", b, d.Save())
		case is:
			taken++
		case !bytes.Equal(d.Save(), was) || !bytes.Equal(m.done, done) || m.n != n:
			t.Fatalf("R4: Load refuses % x, and changes % x to % x", b, was, d.Save())
		default:
			left++
		}
		if round%16 == 0 && !d.Load(good) {
			t.Fatal("P10.2: Load of what Save told: false")
		}
	}
	if taken < 1000 || left < 1000 {
		t.Errorf("Load took %d, and refused %d: too few to tell", taken, left)
	}
}

// some is a few bytes, or none.
func some(r *rand.Rand, size int) []byte {
	var out []byte
	for range r.IntN(size) {
		out = append(out, byte(r.Uint32())>>r.IntN(8))
	}
	return out
}

// turned is b with a byte or two changed, put in, or taken out.
func turned(b []byte, r *rand.Rand) []byte {
	out := bytes.Clone(b)
	for range 1 + r.IntN(2) {
		at := r.IntN(len(out))
		odd := []byte{0, 1, 7, 9, '!', 0x7f, 0x80, 0xff, byte(r.Uint32())}[r.IntN(9)]
		switch r.IntN(4) {
		case 0:
			out = append(out[:at:at], append([]byte{odd}, out[at:]...)...)
		case 1:
			out = append(out[:at:at], out[at+1:]...)
		default:
			out[at] = odd
		}
	}
	return out
}
