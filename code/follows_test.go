package code_test

import (
	"bytes"
	"testing"

	"armoire/api"
	"armoire/code"
)

// What is written is read.
func TestWrittenIsRead(t *testing.T) {
	for _, v := range edges() {
		r := code.New(code.Num(v))
		if got := r.Num(); got != v || r.End() != api.OK {
			t.Errorf("Num(%d) is read as %d, end %v", v, got, r.End())
		}
	}
	for _, v := range signed() {
		r := code.New(code.Int(v))
		if got := r.Int(); got != v || r.End() != api.OK {
			t.Errorf("Int(%d) is read as %d, end %v", v, got, r.End())
		}
	}
	for size := range 400 {
		b := bytes.Repeat([]byte{byte(size), 0x80}, size)[:size]
		r := code.New(code.Text(b))
		if got := r.Text(size); !bytes.Equal(got, b) || r.End() != api.OK {
			t.Errorf("Text of %d bytes is read as %x, end %v", size, got, r.End())
		}
	}
}

// One behind the other, too.
func TestWrittenInARow(t *testing.T) {
	var all []byte
	for _, v := range edges() {
		all = append(all, code.Num(v)...)
		all = append(all, code.Text(code.Num(v))...)
	}
	for _, v := range signed() {
		all = append(all, code.Int(v)...)
	}
	r := code.New(all)
	for _, v := range edges() {
		if got := r.Num(); got != v {
			t.Fatalf("%d is read as %d", v, got)
		}
		if got := r.Text(10); !bytes.Equal(got, code.Num(v)) {
			t.Fatalf("a text of %d is read as %x", v, got)
		}
	}
	for _, v := range signed() {
		if got := r.Int(); got != v {
			t.Fatalf("%d is read as %d", v, got)
		}
	}
	if e := r.End(); e != api.OK {
		t.Errorf("the end: %v", e)
	}
}

// samples: all bytes up to three of some that are edges, and these behind eight and nine bytes of a number that goes on.
func samples() [][]byte {
	few := []byte{0x00, 0x01, 0x02, 0x03, 0x7e, 0x7f, 0x80, 0x81, 0xfe, 0xff}
	list := [][]byte{nil}
	from := 0
	for range 3 {
		end := len(list)
		for _, b := range list[from:end] {
			for _, c := range few {
				list = append(list, append(bytes.Clone(b), c))
			}
		}
		from = end
	}
	var out [][]byte
	for _, b := range list {
		for _, c := range []byte{0x80, 0xff} {
			for _, n := range []int{8, 9} {
				out = append(out, append(bytes.Repeat([]byte{c}, n), b...))
			}
		}
	}
	return append(list, out...)
}

// What is read, written again, is the same bytes; what is not read leaves the place where it was.
func TestReadIsWritten(t *testing.T) {
	kinds := []func(r *code.Reader) []byte{
		func(r *code.Reader) []byte { return code.Num(r.Num()) },
		func(r *code.Reader) []byte { return code.Int(r.Int()) },
		func(r *code.Reader) []byte { return code.Num(uint64(r.Small(200))) },
		func(r *code.Reader) []byte { return code.Text(r.Text(2)) },
	}
	read := make([]int, len(kinds))
	for _, b := range samples() {
		for i, kind := range kinds {
			r := code.New(b)
			again := kind(r)
			if r.Err() != api.OK {
				if r.Left() != len(b) {
					t.Errorf("kind %d of %x: a fault, and the place is %d ahead of the end", i, b, r.Left())
				}
				continue
			}
			read[i]++
			if took := b[:len(b)-r.Left()]; !bytes.Equal(again, took) {
				t.Errorf("kind %d of %x: %x is written again as %x", i, b, took, again)
			}
		}
	}
	for i, n := range read {
		if n == 0 {
			t.Errorf("kind %d: nothing was read", i)
		}
	}
}

// A number has no two forms: all of two bytes, one by one.
func TestOneForm(t *testing.T) {
	seen := map[uint64]string{}
	for i := range 1 << 16 {
		b := []byte{byte(i), byte(i >> 8)}
		r := code.New(b)
		v := r.Num()
		if r.Err() != api.OK {
			continue
		}
		took := string(b[:2-r.Left()])
		if was, ok := seen[v]; ok && was != took {
			t.Fatalf("%d is read of %x and of %x", v, was, took)
		}
		seen[v] = took
	}
	if len(seen) != 1<<14 {
		t.Errorf("%d numbers have one or two bytes, want %d", len(seen), 1<<14)
	}
}
