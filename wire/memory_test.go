package wire_test

import (
	"bytes"
	"reflect"
	"slices"
	"testing"

	"armoire/api"
)

// roomy gives each list in x, and all bytes, room behind their ends, with something in it.
func roomy(x reflect.Value) {
	for _, at := range slices.Backward(places(x)) { // what is in a list goes along when the list gets its room
		if at.Kind() != reflect.Slice {
			continue
		}
		size := at.Len()
		wide := reflect.MakeSlice(at.Type(), size+2, size+2)
		reflect.Copy(wide, at)
		next := 100
		fill(wide.Index(size), &next)
		fill(wide.Index(size+1), &next)
		at.Set(wide.Slice(0, size))
	}
}

// deep is a copy of x, with what is behind the ends of its lists laid open.
func deep(x reflect.Value) any {
	switch x.Kind() {
	case reflect.Struct:
		var out []any
		for i := range x.NumField() {
			out = append(out, deep(x.Field(i)))
		}
		return out
	case reflect.Slice:
		out := []any{x.Len()}
		all := x.Slice(0, x.Cap())
		for i := range all.Len() {
			out = append(out, deep(all.Index(i)))
		}
		return out
	}
	return x.Interface()
}

// R3: what is handed in, and the room behind its ends, is as it was.
func TestArgumentsStay(t *testing.T) {
	for _, k := range kinds() {
		x := k.full()
		b, _ := plain(x)
		roomy(x)
		was := deep(x)
		if got := k.write(x.Interface()); !bytes.Equal(got, b) {
			t.Errorf("P9.1: %s of one with room is % x, want % x", k.name, got, b)
		}
		if !reflect.DeepEqual(deep(x), was) {
			t.Errorf("R3: %s changes what is handed in", k.name)
		}
		room := append(bytes.Clone(b), "room"...)
		for _, size := range []int{len(b), len(b) - 1, 0} {
			k.take(room[:size])
			if want := string(b) + "room"; string(room) != want {
				t.Errorf("R3: Take%s changes what is handed in: % x, want % x", k.name, room, want)
			}
		}
	}
}

// piece is memory of a list: where it begins, and where it ends with all its room.
type piece struct{ from, to uintptr }

// pieces are those of all that is in x.
func pieces(x reflect.Value) []piece {
	var out []piece
	for _, at := range places(x) {
		if at.Kind() == reflect.Slice && at.Cap() > 0 {
			from := at.Pointer()
			out = append(out, piece{from, from + uintptr(at.Cap())*at.Type().Elem().Size()})
		}
	}
	return out
}

// apart: has no piece anything of another one?
func apart(all []piece) bool {
	for i, p := range all {
		for _, q := range all[:i] {
			if p.from < q.to && q.from < p.to {
				return false
			}
		}
	}
	return true
}

// R3: what is handed out is new memory, and no two lists of it share any.
func TestAnswersAreNew(t *testing.T) {
	for _, k := range kinds() {
		x := k.full()
		roomy(x)
		one, other := k.write(x.Interface()), k.write(x.Interface())
		all := append(pieces(x), pieces(reflect.ValueOf(one))...)
		all = append(all, pieces(reflect.ValueOf(other))...)
		first, e := k.take(one)
		second, f := k.take(one)
		if e != api.OK || f != api.OK {
			t.Fatalf("P9.1: Take%s: errors %v and %v", k.name, e, f)
		}
		all = append(all, pieces(reflect.ValueOf(first))...)
		all = append(all, pieces(reflect.ValueOf(second))...)
		if !apart(all) {
			t.Errorf("R3: %s and Take%s: two lists share memory", k.name, k.name)
		}
		clear(one)
		if !reflect.DeepEqual(first, second) || !reflect.DeepEqual(first, k.full().Interface()) {
			t.Errorf("R3: what Take%s answered goes with its argument: %#v", k.name, first)
		}
	}
}

// R2: what is answered hangs on the argument alone.
func TestAgain(t *testing.T) {
	for _, k := range kinds() {
		b, _ := plain(k.full())
		for _, size := range []int{0, len(b) / 2, len(b)} {
			first, e := k.take(b[:size])
			for _, other := range kinds() {
				other.take(b)
				other.write(other.none())
			}
			if again, f := k.take(b[:size]); e != f || !reflect.DeepEqual(first, again) {
				t.Errorf("R2: Take%s of %d bytes: error %v, and then %v", k.name, size, e, f)
			}
		}
	}
}
