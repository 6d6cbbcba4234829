package code_test

import (
	"bytes"
	"math"
	"testing"

	"armoire/code"
)

// edges: numbers around each place where one more byte is needed, and the greatest one.
func edges() []uint64 {
	out := []uint64{0, 1, 2, 63, 64, 65, 300, math.MaxUint64}
	for shift := 7; shift < 64; shift += 7 {
		at := uint64(1) << shift
		out = append(out, at-1, at, at+1)
	}
	return append(out, 1<<63-1, 1<<63, 1<<63+1)
}

// signed: the same for numbers that may be below 0.
func signed() []int64 {
	out := []int64{math.MinInt64, math.MinInt64 + 1, math.MaxInt64 - 1, math.MaxInt64}
	for shift := range 63 {
		at := int64(1) << shift
		out = append(out, at-1, at, at+1, -at-1, -at, -at+1)
	}
	return out
}

func TestNumForm(t *testing.T) {
	rows := []struct {
		v    uint64
		want string
	}{
		{0, "\x00"},
		{1, "\x01"},
		{127, "\x7f"},
		{128, "\x80\x01"},
		{300, "\xac\x02"},
		{16383, "\xff\x7f"},
		{16384, "\x80\x80\x01"},
		{1<<35 + 5, "\x85\x80\x80\x80\x80\x01"},
		{1<<63 - 1, "\xff\xff\xff\xff\xff\xff\xff\xff\x7f"},
		{1 << 63, "\x80\x80\x80\x80\x80\x80\x80\x80\x80\x01"},
		{math.MaxUint64, "\xff\xff\xff\xff\xff\xff\xff\xff\xff\x01"},
	}
	for _, r := range rows {
		if got := code.Num(r.v); string(got) != r.want {
			t.Errorf("P1.1: Num(%d) = %x, want %x", r.v, got, r.want)
		}
	}
}

// What P1.1 says of the bytes, said again of each of them.
func TestNumBytes(t *testing.T) {
	for _, v := range edges() {
		b := code.Num(v)
		var sum uint64
		for i, c := range b {
			sum += uint64(c%128) << (7 * i)
			if last := i == len(b)-1; last == (c >= 128) {
				t.Errorf("P1.1: Num(%d) = %x: the highest bit of byte %d", v, b, i)
			}
		}
		if sum != v {
			t.Errorf("P1.1: Num(%d) = %x has the value %d", v, b, sum)
		}
		if len(b) > 1 && b[len(b)-1] == 0 {
			t.Errorf("P1.1: Num(%d) = %x: its last byte is 0", v, b)
		}
	}
}

func TestIntForm(t *testing.T) {
	rows := []struct {
		v    int64
		want uint64
	}{
		{0, 0},
		{-1, 1},
		{1, 2},
		{-2, 3},
		{2, 4},
		{63, 126},
		{-64, 127},
		{64, 128},
		{-65, 129},
		{math.MaxInt64, math.MaxUint64 - 1},
		{math.MinInt64, math.MaxUint64},
		{math.MinInt64 + 1, math.MaxUint64 - 2},
	}
	for _, r := range rows {
		if got, want := code.Int(r.v), code.Num(r.want); !bytes.Equal(got, want) {
			t.Errorf("P1.1: Int(%d) = %x, want %x", r.v, got, want)
		}
	}
	if got := code.Int(-1); string(got) != "\x01" {
		t.Errorf("P1.1: Int(-1) = %x, want 01", got)
	}
}

func TestTextForm(t *testing.T) {
	rows := []struct {
		b     []byte
		front string
	}{
		{nil, "\x00"},
		{[]byte{}, "\x00"},
		{[]byte("ab"), "\x02"},
		{[]byte{0}, "\x01"},
		{bytes.Repeat([]byte{0xff}, 127), "\x7f"},
		{bytes.Repeat([]byte{0x80}, 128), "\x80\x01"},
		{bytes.Repeat([]byte("x"), 300), "\xac\x02"},
	}
	for _, r := range rows {
		if got, want := code.Text(r.b), r.front+string(r.b); string(got) != want {
			t.Errorf("P1.1: Text of %d bytes = %x, want %x", len(r.b), got, want)
		}
	}
}

// R3: what is handed in, and the room behind its end, is as it was; what is handed out is nobody else's.
func TestTextMemory(t *testing.T) {
	room := []byte("abcdef")
	got := code.Text(room[:2])
	if string(room) != "abcdef" {
		t.Errorf("R3: the room is %q", room)
	}
	room[0] = 'X'
	if string(got) != "\x02ab" {
		t.Errorf("R3: the answer goes with its argument: %q", got)
	}
	got[1] = 'Y'
	if string(room) != "Xbcdef" {
		t.Errorf("R3: the argument goes with the answer: %q", room)
	}
}

func TestNumMemory(t *testing.T) {
	for _, v := range []uint64{0, 5, 300} {
		one, other := code.Num(v), code.Num(v)
		want := string(other)
		clear(one)
		one[0] = 0xee
		_ = append(one, 1, 2, 3)
		if again := code.Num(v); string(other) != want || string(again) != want {
			t.Errorf("R3: Num(%d): %x and %x, want %x", v, other, again, want)
		}
	}
}
