package wire_test

import (
	"bytes"
	"math/rand/v2"
	"reflect"
	"testing"

	"armoire/api"
)

// chance fills x with anything, the more things the greater size is.
func chance(x reflect.Value, r *rand.Rand, size int) {
	switch x.Kind() {
	case reflect.Uint64:
		x.SetUint(r.Uint64() >> r.IntN(64))
	case reflect.Int, reflect.Int64:
		x.SetInt(int64(r.Uint64()) >> r.IntN(64))
	case reflect.Bool:
		x.SetBool(r.IntN(2) == 1)
	case reflect.String:
		x.SetString(string(some(r, size)))
	case reflect.Slice:
		if bytesOf(x) {
			x.SetBytes(some(r, size))
			return
		}
		for range r.IntN(size) {
			one := reflect.New(x.Type().Elem()).Elem()
			chance(one, r, size)
			x.Set(reflect.Append(x, one))
		}
	case reflect.Struct:
		for i := range x.NumField() {
			chance(x.Field(i), r, size)
		}
	}
}

// some is a few bytes, or none.
func some(r *rand.Rand, size int) []byte {
	var out []byte
	for range r.IntN(size) {
		out = append(out, byte(r.Uint32()))
	}
	return out
}

// What is written is read.
func TestWrittenIsRead(t *testing.T) {
	r := rand.New(rand.NewPCG(9, 1))
	for _, k := range kinds() {
		for round := range 400 {
			x := reflect.New(k.of).Elem()
			chance(x, r, 1+round%5)
			b := k.write(x.Interface())
			if want, _ := plain(x); !bytes.Equal(b, want) {
				t.Fatalf("P9.1: %s of %#v is % x, want % x", k.name, x, b, want)
			}
			if got, e := k.take(b); e != api.OK || !reflect.DeepEqual(got, x.Interface()) {
				t.Fatalf("What is written is read: %s %#v is read as %#v, error %v", k.name, x, got, e)
			}
		}
	}
}

// turned is b with a few bytes changed, put in, or taken out.
func turned(b []byte, r *rand.Rand) []byte {
	out := bytes.Clone(b)
	for range 1 + r.IntN(3) {
		at := r.IntN(len(out) + 1)
		odd := []byte{0, 1, 2, 3, 0x7f, 0x80, 0x81, 0xff, 0x27, 0x89, byte(r.Uint32())}[r.IntN(11)]
		switch {
		case at == len(out) || r.IntN(4) == 0:
			out = append(out[:at:at], append([]byte{odd}, out[at:]...)...)
		case r.IntN(4) == 0:
			out = append(out[:at:at], out[at+1:]...)
		default:
			out[at] = odd
		}
	}
	return out
}

// Of any bytes what the chapter says is answered; what is read, written again, is the same bytes.
func TestReadIsWritten(t *testing.T) {
	r := rand.New(rand.NewPCG(9, 2))
	for _, k := range kinds() {
		read := 0
		for round := range 20000 {
			b := some(r, 30)
			if round%8 > 0 {
				x := reflect.New(k.of).Elem()
				chance(x, r, 1+round%3)
				b, _ = plain(x)
				b = turned(b, r)
			}
			want, wanted := model(k.of, b)
			got, e := k.take(b)
			if e != wanted || !reflect.DeepEqual(got, want) {
				t.Fatalf("P9.1: Take%s of % x: %#v, error %v; want %#v, error %v", k.name, b, got, e, want, wanted)
			}
			if e != api.OK {
				continue
			}
			read++
			if again := k.write(got); !bytes.Equal(again, b) {
				t.Fatalf("What is read, written again, is the same bytes: %s % x becomes % x", k.name, b, again)
			}
		}
		if read < 1000 {
			t.Errorf("Only %d of the bytes were a %s", read, k.name)
		}
	}
}
