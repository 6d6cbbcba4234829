package tuple_test

import (
	"bytes"
	"math"
	"slices"
	"strings"
	"testing"

	"armoire/api"
	"armoire/tuple"
)

// One value of each kind.
var null = api.Value{}

func number(i int64) api.Value { return api.Value{Kind: api.Int, I: i} }

func text(s string) api.Value { return api.Value{Kind: api.Text, S: s} }

// inOrder: right values, each behind the one ahead of it.
func inOrder() []api.Value {
	return []api.Value{
		null,
		number(math.MinInt64), number(math.MinInt64 + 1), number(-1 << 32), number(-257), number(-256), number(-255), number(-1),
		number(0), number(1), number(255), number(256), number(1 << 32), number(math.MaxInt64 - 1), number(math.MaxInt64),
		text(""), text("\x00"), text("\x00\x00"), text("\x00\x01"), text("\x00\xff"), text("\x01"), text("\x01\x00"),
		text("a"), text("a\x00"), text("a\x00b"), text("a\x01"), text("aa"), text("ab"), text("b"), text("\xc3\xa9"), text("\xfe"),
		text("\xff"), text("\xff\x00"), text("\xff\x01"), text(strings.Repeat("\xff", api.MaxText)),
	}
}

// wrong: values that are not right.
func wrong() []api.Value {
	return []api.Value{
		{Kind: api.Null, I: 1}, {Kind: api.Null, I: -1}, {Kind: api.Null, I: math.MinInt64}, {Kind: api.Null, S: "x"}, {Kind: api.Null, S: "\x00"},
		{Kind: api.Int, S: "x"}, {Kind: api.Int, I: 7, S: "\x00"},
		{Kind: api.Text, I: 1}, {Kind: api.Text, I: -1, S: "x"}, {Kind: api.Text, S: strings.Repeat("x", api.MaxText+1)},
		{Kind: api.Text, S: strings.Repeat("\x00", api.MaxText+1)}, {Kind: api.Text, S: strings.Repeat("x", 1<<16)},
		{Kind: 3}, {Kind: -1}, {Kind: math.MaxInt}, {Kind: math.MinInt}, {Kind: 256}, {Kind: 3, I: 1}, {Kind: 4, S: "x"},
	}
}

func TestRight(t *testing.T) {
	for _, v := range append(inOrder(), text(strings.Repeat("x", api.MaxText)), text(strings.Repeat("\x00", api.MaxText)), text(strings.Repeat("é", api.MaxText/2))) {
		if !tuple.Right(v) {
			t.Errorf("P3.1: %v is not right", v)
		}
	}
	for _, v := range wrong() {
		if tuple.Right(v) {
			t.Errorf("P3.1: %v is right", v)
		}
	}
	if v := text(strings.Repeat("é", api.MaxText/2) + "x"); tuple.Right(v) {
		t.Errorf("P3.1: %v of %d bytes is right: its bytes count, not its runes", v, len(v.S))
	}
}

// lists: lists of right values, each behind the one ahead of it: a beginning is ahead of what it begins.
func lists() [][]api.Value {
	out := [][]api.Value{nil}
	for _, v := range inOrder() {
		out = append(out, []api.Value{v})
		for _, w := range []api.Value{null, number(-1), number(0), text(""), text("\x00"), text("\xff")} {
			out = append(out, []api.Value{v, w}, []api.Value{v, w, null})
		}
	}
	return out
}

// side: how a stands to b, by their places.
func side(a, b int) int {
	switch {
	case a < b:
		return -1
	case a > b:
		return 1
	}
	return 0
}

func TestCmp(t *testing.T) {
	all := lists()
	for a := range all {
		for b := range all {
			if c := tuple.Cmp(all[a], slices.Clone(all[b])); c != side(a, b) {
				t.Errorf("P3.1: Cmp(%v, %v): %d, want %d", all[a], all[b], c, side(a, b))
			}
		}
	}
	if c := tuple.Cmp(nil, []api.Value{}); c != 0 {
		t.Errorf("P3.1: Cmp of no list and an empty one: %d", c)
	}
	long := slices.Repeat([]api.Value{number(5)}, 1000)
	if c := tuple.Cmp(long, append(slices.Clone(long), null)); c != -1 {
		t.Errorf("P3.1: Cmp of 1000 values and one more: %d, want -1", c)
	}
}

// R1: of values that are not right nothing is promised but an answer, and the same one each time.
func TestCmpOfWrong(t *testing.T) {
	for _, v := range append(wrong(), null) {
		for _, w := range wrong() {
			a, b := []api.Value{v}, []api.Value{w, null}
			if c := tuple.Cmp(a, b); c < -1 || c > 1 || c != tuple.Cmp(a, b) {
				t.Errorf("R1: Cmp(%v, %v): %d", v, w, c)
			}
		}
	}
}

func TestEnd(t *testing.T) {
	rows := [][2]string{
		{"", ""},
		{"\x00", "\x01"},
		{"\x61", "\x62"},
		{"\x61\xff", "\x62"},
		{"\x61\xff\xff", "\x62"},
		{"\x61\x00", "\x61\x01"},
		{"\x61\xfe", "\x61\xff"},
		{"\x61\xfe\xff", "\x61\xff"},
		{"\x61\xff\x00", "\x61\xff\x01"},
		{"\xff\x00\xff", "\xff\x01"},
		{"\x00\xff\xff", "\x01"},
		{"\xfe", "\xff"},
		{"\x7f", "\x80"},
		{"\xff", ""},
		{"\xff\xff", ""},
		{strings.Repeat("\xff", 1000), ""},
		{"\x00" + strings.Repeat("\xff", 1000), "\x01"},
		{strings.Repeat("\x00", 1000), strings.Repeat("\x00", 999) + "\x01"},
	}
	for _, row := range rows {
		if b := tuple.End([]byte(row[0])); string(b) != row[1] {
			t.Errorf("P3.3: End(%x): %x, want %x", row[0], b, row[1])
		}
	}
	if b := tuple.End(nil); len(b) != 0 {
		t.Errorf("P3.3: End of nothing: %x", b)
	}
}

// R3: what End is given is neither changed nor kept, with the room behind its end.
func TestEndMemory(t *testing.T) {
	for _, s := range []string{"a", "a\xff", "\xff", "ab\xff\xff"} {
		room := []byte(s + "room")
		b := room[:len(s)]
		end := tuple.End(b)
		want := bytes.Clone(end)
		overwrite(end[:cap(end)])
		if string(room) != s+"room" {
			t.Errorf("R3: End(%x) has memory of what was given: %x", s, room)
		}
		again := tuple.End(b)
		overwrite(room)
		if !bytes.Equal(again, want) {
			t.Errorf("R3: End(%x) keeps what was given: %x, want %x", s, again, want)
		}
	}
}

// overwrite: other bytes, each one.
func overwrite(b []byte) {
	for i := range b {
		b[i] ^= 0x55
	}
}
