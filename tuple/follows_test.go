package tuple_test

import (
	"bytes"
	"slices"
	"testing"

	"armoire/api"
	"armoire/tuple"
)

// enc: the bytes of a list of right values.
func enc(t *testing.T, l []api.Value) []byte {
	t.Helper()
	b, e := tuple.Enc(l)
	if e != api.OK {
		t.Fatalf("Enc(%v): %v", l, e)
	}
	return b
}

// The bytes of a list are less than those of another one just if the list is.
func TestOrderOfBytes(t *testing.T) {
	all := lists()
	var made [][]byte
	for _, l := range all {
		made = append(made, enc(t, l))
	}
	for a := range made {
		for b := range made {
			if c := bytes.Compare(made[a], made[b]); c != side(a, b) {
				t.Errorf("the bytes of %v and %v: %d, want %d", all[a], all[b], c, side(a, b))
			}
		}
	}
}

// pairs: all lists of up to two values of a few, in no order.
func pairs() [][]api.Value {
	few := append(inOrder(), text("\x00\xff\x00"), text("\x01\x01"), text("\x00\x01\x00"), number(1<<16))
	out := [][]api.Value{nil}
	for _, v := range few {
		out = append(out, []api.Value{v})
		for _, w := range few {
			out = append(out, []api.Value{v, w})
		}
	}
	return out
}

// Cmp and the bytes agree, of lists that nobody put in order, too.
func TestCmpAgreesWithBytes(t *testing.T) {
	all := pairs()
	for i, a := range all {
		b := all[(i*389+7)%len(all)]
		if c, d := tuple.Cmp(a, b), bytes.Compare(enc(t, a), enc(t, b)); c != d {
			t.Errorf("Cmp(%v, %v): %d; their bytes: %d", a, b, c, d)
		}
		if c, d := tuple.Cmp(a, b), tuple.Cmp(b, a); c != -d {
			t.Errorf("Cmp(%v, %v): %d; the other way round: %d", a, b, c, d)
		}
	}
}

// What is written is read.
func TestWrittenIsRead(t *testing.T) {
	for _, l := range pairs() {
		b := enc(t, l)
		if got, n, e := tuple.Dec(b); e != api.OK || n != len(b) || !slices.Equal(got, l) {
			t.Errorf("%v is read as %v, %d, %v", l, got, n, e)
		}
	}
}

// samples: all bytes up to six of those that mean something, and these behind the most of a text, and within a number.
func samples() [][]byte {
	few := []byte{0x00, 0x01, 0x02, 0x03, 0xff}
	list := [][]byte{nil}
	from := 0
	for range 6 {
		end := len(list)
		for _, b := range list[from:end] {
			for _, c := range few {
				list = append(list, append(bytes.Clone(b), c))
			}
		}
		from = end
	}
	text := append([]byte{0x03}, bytes.Repeat([]byte{'x'}, api.MaxText-2)...)
	number := []byte{0x02, 0x80, 0, 0, 0, 0}
	var out [][]byte
	for _, b := range list {
		out = append(out, b, slices.Concat(text, b), slices.Concat(number, b))
	}
	return out
}

// What is read, written again, is the same bytes; what ends too early can go on so that it is read; what may not be so cannot.
func TestReadIsWritten(t *testing.T) {
	rest := [][]byte{{0x00, 0x01}, {0x01}}
	for n := range 8 {
		rest = append(rest, make([]byte, n+1))
	}
	var count [3]int
	for _, b := range samples() {
		l, _, e := tuple.Dec(b)
		goesOn := slices.ContainsFunc(rest, func(r []byte) bool {
			_, _, e := tuple.Dec(slices.Concat(b, r))
			return e == api.OK
		})
		switch e {
		case api.OK:
			count[0]++
			if again := enc(t, l); !bytes.Equal(again, b) {
				t.Errorf("%x is written again as %x", b, again)
			}
		case api.ErrShort:
			count[1]++
			if !goesOn {
				t.Errorf("%x ends too early, but nothing makes it whole", b)
			}
		case api.ErrForm:
			count[2]++
			if goesOn {
				t.Errorf("%x may not be so, but something makes it whole", b)
			}
		default:
			t.Errorf("%x: %v", b, e)
		}
	}
	if slices.Contains(count[:], 0) {
		t.Errorf("read, too short, refused: %v", count)
	}
}

// P3.3: among bytes of up to three that are edges, what is below End(b), and not below b, is just what begins with b.
func TestEndIsLeast(t *testing.T) {
	few := []byte{0x00, 0x01, 0x7f, 0x80, 0xfe, 0xff}
	list := [][]byte{nil}
	for i := 0; len(list[i]) < 3; i++ {
		for _, c := range few {
			list = append(list, append(bytes.Clone(list[i]), c))
		}
	}
	for _, b := range list {
		end := tuple.End(b)
		for _, x := range list {
			within := bytes.Compare(b, x) <= 0 && (len(end) == 0 || bytes.Compare(x, end) < 0)
			if within != bytes.HasPrefix(x, b) {
				t.Errorf("P3.3: End(%x) is %x: is %x within? %v", b, end, x, within)
			}
		}
	}
}

// The end of a list's bytes is behind all lists that it begins, and ahead of those behind them.
func TestEndOfLists(t *testing.T) {
	all := lists()
	for i, l := range all {
		from, to := enc(t, l), tuple.End(enc(t, l))
		for _, m := range all[i:] {
			begins := len(m) >= len(l) && slices.Equal(m[:len(l)], l)
			if below := len(to) == 0 || bytes.Compare(enc(t, m), to) < 0; below != begins {
				t.Errorf("P3.3: End(%x): the list %v: below is %v", from, m, below)
			}
		}
	}
}
