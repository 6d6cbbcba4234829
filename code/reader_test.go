package code_test

import (
	"bytes"
	"math"
	"strings"
	"testing"

	"armoire/api"
	"armoire/code"
)

// Nine bytes of a number that goes on.
const nine = "\xff\xff\xff\xff\xff\xff\xff\xff\xff"

// numbers: what Num is to find at a beginning; left is what is behind its place then.
var numbers = []struct {
	b    string
	v    uint64
	e    api.Errno
	left int
}{
	{"\x00", 0, api.OK, 0},
	{"\x00\x00", 0, api.OK, 1},
	{"\x7f", 127, api.OK, 0},
	{"\x80\x01", 128, api.OK, 0},
	{"\xac\x02\x05", 300, api.OK, 1},
	{"\x80\x80\x80\x80\x80\x80\x80\x80\x80\x01", 1 << 63, api.OK, 0},
	{nine + "\x01", math.MaxUint64, api.OK, 0},
	{nine + "\x01\x80", math.MaxUint64, api.OK, 1},
	{"\xff\xff\xff\xff\xff\xff\xff\xff\x7f", 1<<63 - 1, api.OK, 0},

	{"", 0, api.ErrShort, 0},
	{"\x80", 0, api.ErrShort, 1},
	{"\xff\xff", 0, api.ErrShort, 2},
	{"\x80\x80\x80\x80\x80\x80\x80\x80\x80", 0, api.ErrShort, 9},
	{nine, 0, api.ErrShort, 9},

	{"\x80\x00", 0, api.ErrForm, 2},
	{"\x80\x00\x01", 0, api.ErrForm, 3},
	{"\xff\x80\x00", 0, api.ErrForm, 3},
	{nine[1:] + "\x00", 0, api.ErrForm, 9},
	{nine + "\x00", 0, api.ErrForm, 10},
	{nine + "\x02", 0, api.ErrForm, 10},
	{nine + "\x7f", 0, api.ErrForm, 10},
	{nine + "\x80", 0, api.ErrForm, 10},
	{nine + "\x81", 0, api.ErrForm, 10},
	{nine + "\x81\x00", 0, api.ErrForm, 11},
	{nine + "\xff\xff\x01", 0, api.ErrForm, 12},
}

// state: where a reader stands, and its fault.
func state(t *testing.T, name string, r *code.Reader, e api.Errno, left int) {
	t.Helper()
	if r.Err() != e || r.Left() != left {
		t.Errorf("%s: fault %v, %d left; want %v, %d", name, r.Err(), r.Left(), e, left)
	}
}

// stuck: a reader with a fault answers zero values, and stays.
func stuck(t *testing.T, name string, r *code.Reader, e api.Errno) {
	t.Helper()
	left := r.Left()
	for range 2 {
		if v := r.Num(); v != 0 {
			t.Errorf("P1.3: %s: Num behind a fault: %d", name, v)
		}
		if v := r.Int(); v != 0 {
			t.Errorf("P1.3: %s: Int behind a fault: %d", name, v)
		}
		if v := r.Small(math.MaxInt); v != 0 {
			t.Errorf("P1.3: %s: Small behind a fault: %d", name, v)
		}
		if v := r.Text(math.MaxInt); len(v) != 0 {
			t.Errorf("P1.3: %s: Text behind a fault: %x", name, v)
		}
		if v := r.End(); v != e {
			t.Errorf("P1.3: %s: End behind a fault: %v, want %v", name, v, e)
		}
		state(t, "P1.3: "+name, r, e, left)
	}
}

func TestReaderNum(t *testing.T) {
	for _, row := range numbers {
		r := code.New([]byte(row.b))
		if v := r.Num(); v != row.v {
			t.Errorf("P1.2: Num of %x: %d, want %d", row.b, v, row.v)
		}
		state(t, "P1.2: Num", r, row.e, row.left)
		if row.e != api.OK {
			stuck(t, "Num", r, row.e)
		}
	}
}

// Int, Small and Text begin with a number: its faults are theirs.
func TestReaderNumFaults(t *testing.T) {
	for _, row := range numbers {
		if row.e == api.OK {
			continue
		}
		readers := []func(r *code.Reader) bool{
			func(r *code.Reader) bool { return r.Int() == 0 },
			func(r *code.Reader) bool { return r.Small(math.MaxInt) == 0 },
			func(r *code.Reader) bool { return r.Small(-1) == 0 },
			func(r *code.Reader) bool { return len(r.Text(math.MaxInt)) == 0 },
			func(r *code.Reader) bool { return len(r.Text(0)) == 0 },
		}
		for i, read := range readers {
			r := code.New([]byte(row.b))
			if !read(r) {
				t.Errorf("P1.3: reader %d of %x: not a zero value", i, row.b)
			}
			state(t, "P1.2: a number's fault", r, row.e, row.left)
			stuck(t, "a number's fault", r, row.e)
		}
	}
}

func TestReaderInt(t *testing.T) {
	rows := []struct {
		b string
		v int64
	}{
		{"\x00", 0},
		{"\x01", -1},
		{"\x02", 1},
		{"\x03", -2},
		{"\x7e", 63},
		{"\x7f", -64},
		{"\x80\x01", 64},
		{"\xfe\xff\xff\xff\xff\xff\xff\xff\xff\x01", math.MaxInt64},
		{nine + "\x01", math.MinInt64},
	}
	for _, row := range rows {
		r := code.New([]byte(row.b + "\x09"))
		if v := r.Int(); v != row.v {
			t.Errorf("P1.2: Int of %x: %d, want %d", row.b, v, row.v)
		}
		state(t, "P1.2: Int", r, api.OK, 1)
	}
}

func TestReaderSmall(t *testing.T) {
	rows := []struct {
		b    string
		most int
		v    int
		e    api.Errno
		left int
	}{
		{"\x00", 0, 0, api.OK, 0},
		{"\x05\x01", 5, 5, api.OK, 1},
		{"\x05", 6, 5, api.OK, 0},
		{"\xac\x02", 300, 300, api.OK, 0},
		{"\xff\xff\xff\xff\xff\xff\xff\xff\x7f", math.MaxInt, math.MaxInt, api.OK, 0},
		{"\x00", -3, 0, api.OK, 0},
		{"\x00", math.MinInt, 0, api.OK, 0},

		{"\x01", 0, 0, api.ErrForm, 1},
		{"\x05\x01", 4, 0, api.ErrForm, 2},
		{"\x01", -3, 0, api.ErrForm, 1},
		{"\x01", math.MinInt, 0, api.ErrForm, 1},
		{"\xac\x02", 299, 0, api.ErrForm, 2},
		{"\x80\x80\x80\x80\x80\x80\x80\x80\x80\x01", math.MaxInt, 0, api.ErrForm, 10},
		{nine + "\x01", math.MaxInt, 0, api.ErrForm, 10},
		{nine + "\x01", -1, 0, api.ErrForm, 10},
	}
	for _, row := range rows {
		r := code.New([]byte(row.b))
		if v := r.Small(row.most); v != row.v {
			t.Errorf("P1.2: Small(%d) of %x: %d, want %d", row.most, row.b, v, row.v)
		}
		state(t, "P1.2: Small", r, row.e, row.left)
		if row.e != api.OK {
			stuck(t, "Small", r, row.e)
		}
	}
}

func TestReaderText(t *testing.T) {
	long := strings.Repeat("z", 128)
	rows := []struct {
		b    string
		most int
		v    string
		e    api.Errno
		left int
	}{
		{"\x00", 0, "", api.OK, 0},
		{"\x00", -1, "", api.OK, 0},
		{"\x00a", 0, "", api.OK, 1},
		{"\x02ab", 2, "ab", api.OK, 0},
		{"\x02abc", 9, "ab", api.OK, 1},
		{"\x80\x01" + long + "!", 128, long, api.OK, 1},

		{"\x03abc", 2, "", api.ErrForm, 4},
		{"\x01a", 0, "", api.ErrForm, 2},
		{"\x01a", -5, "", api.ErrForm, 2},
		{"\x80\x01" + long, 127, "", api.ErrForm, 130},

		{"\x01", 1, "", api.ErrShort, 1},
		{"\x02a", 9, "", api.ErrShort, 2},
		{"\x80\x01" + long[1:], 128, "", api.ErrShort, 129},
		{"\xff\xff\xff\xff\xff\xff\xff\xff\x7fa", math.MaxInt, "", api.ErrShort, 10},

		// R5: both would be right.
		{"\x03", 2, "", api.ErrForm, 1},
		{nine + "\x01", math.MaxInt, "", api.ErrForm, 10},
	}
	for _, row := range rows {
		r := code.New([]byte(row.b))
		if v := r.Text(row.most); string(v) != row.v {
			t.Errorf("P1.2: Text(%d) of %x: %q, want %q", row.most, row.b, v, row.v)
		}
		state(t, "P1.2: Text", r, row.e, row.left)
		if row.e != api.OK {
			stuck(t, "Text", r, row.e)
		}
	}
}

// The place where a fault begins is not the beginning of all.
func TestReaderFaultBehind(t *testing.T) {
	r := code.New([]byte("\xac\x02\x03\x01x\x02y"))
	if a, b, c := r.Num(), r.Int(), r.Text(5); a != 300 || b != -2 || string(c) != "x" {
		t.Errorf("P1.2: %d, %d, %q", a, b, c)
	}
	state(t, "P1.3: ahead of the fault", r, api.OK, 2)
	r.Text(5)
	state(t, "P1.3: at the fault", r, api.ErrShort, 2)
	stuck(t, "behind others", r, api.ErrShort)
}

// The first fault stays, though another reading of the same place would have another one, or none.
func TestReaderFirstFault(t *testing.T) {
	r := code.New([]byte("\x09ab"))
	r.Small(8)
	stuck(t, "a number above its bound", r, api.ErrForm)

	r = code.New([]byte("\x09ab"))
	r.Text(9)
	r.Text(8)
	stuck(t, "a text that ends too early", r, api.ErrShort)
}

func TestReaderEnd(t *testing.T) {
	r := code.New([]byte("\x01\x02"))
	for _, want := range []api.Errno{api.ErrForm, api.ErrForm, api.OK} {
		if e := r.End(); e != want {
			t.Errorf("P1.3: End with %d left: %v, want %v", r.Left(), e, want)
		}
		// To ask is not a fault: what is behind is read all the same.
		if r.Err() != api.OK {
			t.Errorf("P1.3: Err with %d left: %v", r.Left(), r.Err())
		}
		r.Num()
	}
	stuck(t, "past the end", r, api.ErrShort)
	for _, b := range [][]byte{nil, {}} {
		if r := code.New(b); r == nil || r.End() != api.OK || r.Err() != api.OK || r.Left() != 0 {
			t.Error("P1.3: a reader of no bytes")
		}
	}
}

func TestReaderNil(t *testing.T) {
	var r *code.Reader
	stuck(t, "nil", r, api.ErrNil)
	state(t, "P1.3: nil", r, api.ErrNil, 0)
	if v := r.Small(-1); v != 0 {
		t.Errorf("P1.3: nil: Small: %d", v)
	}
	if v := r.Text(-1); len(v) != 0 {
		t.Errorf("P1.3: nil: Text: %x", v)
	}
}

// R1: an object that New did not make is one without bytes.
func TestReaderZero(t *testing.T) {
	var r code.Reader
	if e := r.End(); e != api.OK {
		t.Errorf("R1: the end of a zero reader: %v", e)
	}
	if v := r.Text(4); len(v) != 0 {
		t.Errorf("R1: a text of a zero reader: %x", v)
	}
	stuck(t, "a zero reader", &r, api.ErrShort)
}

// R3: the bytes that were handed in are neither kept nor changed; each answer is memory of its own.
func TestReaderMemory(t *testing.T) {
	room := []byte("\x02ab\x02cd\x05tail")
	in := room[:6]
	r := code.New(in)
	for i := range room {
		room[i] = 0xff
	}
	one := r.Text(9)
	clear(one)
	_ = append(one, 0xff, 0xff, 0xff)
	two := r.Text(9)
	if string(two) != "cd" || r.End() != api.OK {
		t.Errorf("R3: the second text is %q, end %v", two, r.End())
	}
	_ = append(one[:0], "zzzz"...)
	if string(two) != "cd" {
		t.Errorf("R3: the second text became %q", two)
	}
	if !bytes.Equal(room, bytes.Repeat([]byte{0xff}, len(room))) {
		t.Errorf("R3: the room is %x", room)
	}
}

// R2: readers of the same bytes know nothing of each other.
func TestReaderAlone(t *testing.T) {
	b := []byte("\x01\x02\x03")
	one, two := code.New(b), code.New(b)
	one.Small(0)
	if two.Num() != 1 || two.Num() != 2 || two.Left() != 1 || two.Err() != api.OK {
		t.Error("R2: what was done with another reader is seen")
	}
	state(t, "R2: the other one", one, api.ErrForm, 3)
}
