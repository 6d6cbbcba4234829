package tuple_test

import (
	"bytes"
	"math"
	"slices"
	"strings"
	"testing"

	"armoire/api"
	"armoire/tuple"
)

// full: as many values as there may be.
const full = 16

// forms: lists, and their bytes.
var forms = []struct {
	l []api.Value
	b string
}{
	{nil, ""},
	{[]api.Value{}, ""},
	{[]api.Value{null}, "\x01"},
	{[]api.Value{null, null}, "\x01\x01"},

	{[]api.Value{number(0)}, "\x02\x80\x00\x00\x00\x00\x00\x00\x00"},
	{[]api.Value{number(1)}, "\x02\x80\x00\x00\x00\x00\x00\x00\x01"},
	{[]api.Value{number(-1)}, "\x02\x7f\xff\xff\xff\xff\xff\xff\xff"},
	{[]api.Value{number(0x0102030405060708)}, "\x02\x81\x02\x03\x04\x05\x06\x07\x08"},
	{[]api.Value{number(-256)}, "\x02\x7f\xff\xff\xff\xff\xff\xff\x00"},
	{[]api.Value{number(math.MinInt64)}, "\x02\x00\x00\x00\x00\x00\x00\x00\x00"},
	{[]api.Value{number(math.MaxInt64)}, "\x02\xff\xff\xff\xff\xff\xff\xff\xff"},

	{[]api.Value{text("")}, "\x03\x00\x01"},
	{[]api.Value{text("a")}, "\x03a\x00\x01"},
	{[]api.Value{text("\x00")}, "\x03\x00\xff\x00\x01"},
	{[]api.Value{text("\x00\x00")}, "\x03\x00\xff\x00\xff\x00\x01"},
	{[]api.Value{text("a\x00b")}, "\x03a\x00\xffb\x00\x01"},
	{[]api.Value{text("a\x00")}, "\x03a\x00\xff\x00\x01"},
	{[]api.Value{text("\x01\xff")}, "\x03\x01\xff\x00\x01"},
	{[]api.Value{text("\x00\x01")}, "\x03\x00\xff\x01\x00\x01"},
	{[]api.Value{text("\x00\xff")}, "\x03\x00\xff\xff\x00\x01"},
	{[]api.Value{text("\xc3\x28")}, "\x03\xc3\x28\x00\x01"},
	{[]api.Value{text(strings.Repeat("x", api.MaxText))}, "\x03" + strings.Repeat("x", api.MaxText) + "\x00\x01"},
	{[]api.Value{text(strings.Repeat("\x00", api.MaxText))}, "\x03" + strings.Repeat("\x00\xff", api.MaxText) + "\x00\x01"},

	{[]api.Value{text(""), null}, "\x03\x00\x01\x01"},
	{[]api.Value{null, number(2), text("b"), text("")}, "\x01\x02\x80\x00\x00\x00\x00\x00\x00\x02\x03b\x00\x01\x03\x00\x01"},
	{make([]api.Value, full), strings.Repeat("\x01", full)},
	{slices.Repeat([]api.Value{text("\x00")}, full), strings.Repeat("\x03\x00\xff\x00\x01", full)},
}

func TestEnc(t *testing.T) {
	for _, row := range forms {
		b, e := tuple.Enc(row.l)
		if e != api.OK || string(b) != row.b {
			t.Errorf("P3.1: Enc(%v): %x, %v; want %x", row.l, b, e, row.b)
		}
	}
}

// refused: Enc answers that error, and nothing else.
func refused(t *testing.T, l []api.Value, want api.Errno) {
	t.Helper()
	if b, e := tuple.Enc(l); e != want || len(b) != 0 {
		t.Errorf("P3.1: Enc(%v): %x, %v; want %v alone", l, b, e, want)
	}
}

func TestEncRefuses(t *testing.T) {
	for _, v := range wrong() {
		refused(t, []api.Value{v}, api.ErrForm)
		refused(t, []api.Value{null, number(1), v}, api.ErrForm)
		refused(t, []api.Value{v, text("")}, api.ErrForm)
		long := make([]api.Value, full+1)
		long[full] = v
		refused(t, long[1:], api.ErrForm)
		refused(t, long, api.ErrForm) // what is named first counts
		refused(t, append(slices.Clone(long), null), api.ErrForm)
		refused(t, append([]api.Value{v}, make([]api.Value, 100)...), api.ErrForm)
	}
	refused(t, make([]api.Value, full+1), api.ErrLong)
	refused(t, slices.Repeat([]api.Value{text("x")}, 1000), api.ErrLong)
}

func TestDec(t *testing.T) {
	for _, row := range forms {
		l, n, e := tuple.Dec([]byte(row.b))
		if e != api.OK || n != len(row.b) || !slices.Equal(l, row.l) {
			t.Errorf("P3.2: Dec(%x): %v, %d, %v; want %v, %d", row.b, l, n, e, row.l, len(row.b))
		}
	}
	if l, n, e := tuple.Dec(nil); e != api.OK || n != 0 || len(l) != 0 {
		t.Errorf("P3.2: Dec of nothing: %v, %d, %v", l, n, e)
	}
}

func TestDecRefuses(t *testing.T) {
	whole := strings.Repeat("x", api.MaxText)
	zeros := strings.Repeat("\x00\xff", api.MaxText)
	rows := []struct {
		b string
		e api.Errno
	}{
		// No kind.
		{"\x00", api.ErrForm},
		{"\x04", api.ErrForm},
		{"\xff", api.ErrForm},
		{"\x00\x01", api.ErrForm},
		{"\x01\x00", api.ErrForm},
		{"\x01\x04\x02", api.ErrForm},
		{"\x03\x00\x01\x00\x01", api.ErrForm},
		{"\x02\x80\x00\x00\x00\x00\x00\x00\x00\x00", api.ErrForm},

		// It ends within one.
		{"\x02", api.ErrShort},
		{"\x02\x80", api.ErrShort},
		{"\x02\x80\x00\x00\x00\x00\x00\x00", api.ErrShort},
		{"\x02\x00\x00", api.ErrShort}, // within a number any byte may stand
		{"\x01\x02\x80\x00\x00\x00\x00\x00\x00", api.ErrShort},
		{"\x03", api.ErrShort},
		{"\x03a", api.ErrShort},
		{"\x03a\x00", api.ErrShort},
		{"\x03a\x00\xff", api.ErrShort},
		{"\x03\x01", api.ErrShort},
		{"\x03\xff", api.ErrShort},
		{"\x03\x00\xff\x01", api.ErrShort},
		{"\x03\x00\x01\x03", api.ErrShort},

		// Behind a 00.
		{"\x03\x00\x00", api.ErrForm},
		{"\x03\x00\x02", api.ErrForm},
		{"\x03\x00\xfe", api.ErrForm},
		{"\x03a\x00\x02\x00\x01", api.ErrForm},
		{"\x03\x00\xff\x00\x00", api.ErrForm},
		{"\x03\x00a", api.ErrForm},

		// A text that becomes too long, at the byte that makes it so.
		{"\x03" + whole, api.ErrShort},
		{"\x03" + whole + "\x00", api.ErrShort},
		{"\x03" + whole + "x", api.ErrForm},
		{"\x03" + whole + "x\x00\x01", api.ErrForm},
		{"\x03" + whole + "\x00\xff", api.ErrForm},
		{"\x03" + whole + "\x00\xff\x00\x01", api.ErrForm},
		{"\x03" + whole + "\x00\x02", api.ErrForm},
		{"\x03" + zeros, api.ErrShort},
		{"\x03" + zeros + "\x00", api.ErrShort},
		{"\x03" + zeros + "x", api.ErrForm},
		{"\x03" + zeros + "\x00\xff", api.ErrForm},
		{"\x03" + strings.Repeat("x", 1000), api.ErrForm},

		// What comes first counts.
		{"\x04\x02", api.ErrForm},
		{"\x03\x00\x02\x02\x80", api.ErrForm},
		{"\x03" + whole + "x\x02", api.ErrForm},

		// Too many, which is asked last.
		{strings.Repeat("\x01", full+1), api.ErrLong},
		{strings.Repeat("\x03\x00\x01", 1000), api.ErrLong},
		{strings.Repeat("\x01", full) + "\x02\x80\x00\x00\x00\x00\x00\x00\x00", api.ErrLong},
		{strings.Repeat("\x01", full) + "\x02", api.ErrShort},
		{strings.Repeat("\x01", full+1) + "\x02", api.ErrShort},
		{strings.Repeat("\x01", full+1) + "\x00", api.ErrForm},
		{strings.Repeat("\x01", 1000) + "\x03\x00\x00", api.ErrForm},
		{strings.Repeat("\x01", 1000) + "\x03" + whole + "x", api.ErrForm},
	}
	for _, row := range rows {
		l, n, e := tuple.Dec([]byte(row.b))
		if e != row.e || len(l) != 0 || n != 0 {
			t.Errorf("P3.2: Dec(%x): %v, %d, %v; want %v alone", row.b, l, n, e, row.e)
		}
	}
}

// R3: lists and bytes that are given are neither changed nor kept, with the room behind their ends.
func TestEncMemory(t *testing.T) {
	for _, row := range forms {
		room := append(slices.Clone(row.l), number(77), text("room"))
		was := slices.Clone(room)
		b, _ := tuple.Enc(room[:len(row.l)])
		overwrite(b[:cap(b)])
		if !slices.Equal(room, was) {
			t.Errorf("R3: Enc(%v) changes what was given: %v", row.l, room)
		}
		again, _ := tuple.Enc(room[:len(row.l)])
		clear(room)
		if string(again) != row.b {
			t.Errorf("R3: Enc(%v) hangs on what was given, or answered, ahead: %x", row.l, again)
		}
	}
}

func TestDecMemory(t *testing.T) {
	for _, row := range forms {
		room := []byte(row.b + "\x01\x02room")
		l, n, e := tuple.Dec(room[:len(row.b)])
		if string(room) != row.b+"\x01\x02room" {
			t.Errorf("R3: Dec(%x) changes what was given: %x", row.b, room)
		}
		overwrite(room)
		if e != api.OK || n != len(row.b) || !slices.Equal(l, row.l) {
			t.Errorf("R3: Dec(%x) keeps what was given, or looks behind its end: %v, %d, %v", row.b, l, n, e)
		}
		clear(l[:cap(l)])
		if m, _, _ := tuple.Dec([]byte(row.b)); !slices.Equal(m, row.l) {
			t.Errorf("R3: Dec(%x) hangs on what was answered ahead: %v", row.b, m)
		}
	}
}

// R1: great ones, too, are answered in time, and without keeping what will be refused.
func TestGreat(t *testing.T) {
	b := bytes.Repeat([]byte{0x01}, 1<<22)
	if l, n, e := tuple.Dec(b); e != api.ErrLong || len(l) != 0 || n != 0 {
		t.Errorf("R1: Dec of %d Nulls: %d values, %d, %v", len(b), len(l), n, e)
	}
	if l, n, e := tuple.Dec(append([]byte{0x03}, bytes.Repeat([]byte{'x'}, 1<<22)...)); e != api.ErrForm || len(l) != 0 || n != 0 {
		t.Errorf("R1: Dec of a text without an end: %d values, %d, %v", len(l), n, e)
	}
	refused(t, make([]api.Value, 1<<18)[:1<<18:1<<18], api.ErrLong)
}
