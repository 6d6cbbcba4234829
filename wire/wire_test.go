package wire_test

import (
	"bytes"
	"encoding/hex"
	"math"
	"reflect"
	"strings"
	"testing"

	"armoire/api"
	"armoire/wire"
)

// raw is the bytes that are written down as hexadecimal digits.
func raw(t *testing.T, s string) []byte {
	t.Helper()
	b, err := hex.DecodeString(strings.Join(strings.Fields(s), ""))
	if err != nil {
		t.Fatal(err)
	}
	return b
}

// form is a thing, and its plain bytes, written down by hand.
type form struct {
	k    kind
	x    any
	want string
}

func forms() []form {
	k := kinds()
	call, command, reply, catalog, ask := k[0], k[1], k[2], k[3], k[4]
	return []form{
		{call, api.Call{}, "00 00 00"},
		{call, api.Call{Client: 1, Seq: 2, Data: []byte("a")}, "01 02 01 61"},
		{call, api.Call{Client: 300, Seq: math.MaxUint64, Data: []byte{0, 255}}, "ac02 ffffffffffffffffff01 02 00ff"},

		{command, api.Command{}, "00 00 00 00 00 00 00 00 00 00 00 00 00  00 00 00 00  00 00 00 00 00 00 00  00"},
		{command, api.Command{
			Kind: 1, Epoch: -1, Txn: 3, N: 4, From: -5, To: 6, Flag: true, Key: []byte("k"), Span: api.Span{From: []byte("f"), To: []byte("to")},
			Pairs:  []api.Pair{{Key: []byte("p"), Value: []byte("v"), Version: -3}, {}},
			Seens:  []api.Seen{{Span: api.Span{To: []byte("t")}, Pairs: []api.Pair{{Version: 1}}}},
			Writes: []api.Write{{Key: []byte("w"), Value: []byte("x")}, {Key: []byte("y"), Drop: true}},
			Table:  api.Table{ID: 7, Name: "T", Columns: []api.Column{{Name: "a", Kind: 2, Null: true}, {}}, Key: []int{1, -1}},
			Index:  api.Index{ID: 8, Table: 9, Name: "I", Columns: []int{10}, Unique: true, State: 4}, Name: "n",
		}, `02 01 03 08 09 0c 01 016b 0166 02746f
			02 0170 0176 05  00 00 00
			01 00 0174 01 00 00 02
			02 0177 0178 00  0179 00 01
			0e 0154 02 0161 04 01  00 00 00  02 02 01
			10 12 0149 01 14 01 08 00  016e`},

		{reply, api.Reply{}, "00 00 00 00 00 00  00 00 00 00  00 00 00 00 00"},
		{reply, api.Reply{
			Err: 21, Txn: 128, N: -64, Flag: true, Pairs: []api.Pair{{Key: []byte("k")}}, Txns: []uint64{1, 300, 0},
			Catalog: api.Catalog{Version: 5, Next: 6, Tables: []api.Table{{ID: 1}}, Indexes: []api.Index{{Bad: true}}},
			Routes:  api.Routes{Epoch: 1, Base: 2, Spans: []api.Owner{{Group: 3}, {Group: 4, From: []byte("x")}}, Moving: 5, Cut: []byte("xy")},
		}, `2a 8001 7f 01  01 016b 00 00  03 01 ac02 00
			0a 0c 01 02 00 00 00  01 00 00 00 00 00 00 01
			02 04 02 06 00 08 0178 0a 027879`},

		{catalog, api.Catalog{}, "00 00 00 00"},
		{catalog, api.Catalog{Version: math.MaxInt64, Next: math.MinInt64}, "feffffffffffffffff01 ffffffffffffffffff01 00 00"},
		{catalog, api.Catalog{Version: 1, Indexes: []api.Index{{ID: 1, Table: 2, Name: "ab", Columns: []int{0, 1}, State: 7, Bad: true}, {Unique: true}}},
			"02 00 00 02  02 04 026162 02 00 02 00 0e 01  00 00 00 00 01 00 00"},

		{ask, api.Ask{}, "00 00  00 00 00 00  00 00 00 00 00 00 00  00 00 00"},
		{ask, api.Ask{
			Kind: 3, Ops: []api.Op{{}, {
				Kind: 2, Table: "t", Index: "x", Row: []api.Value{{}, {Kind: 1, I: math.MinInt64}}, Key: []api.Value{{Kind: 2, S: "s"}},
				Set: []api.Set{{Column: 1, Value: api.Value{Kind: 1, I: 5}}}, From: []api.Value{{I: 6}}, To: []api.Value{{I: -7}},
				Limit: 3, Reverse: true, Names: [][]byte{[]byte("n"), nil},
			}},
			Table: api.Table{ID: 1}, Index: api.Index{ID: 2}, Name: "n", N: 5, Key: []byte("k"),
		}, `06 02  00 00 00 00 00 00 00 00 00 00 00
			04 0174 0178 02 000000 02 ffffffffffffffffff01 00  01 04 00 0173  01 02 02 0a 00  01 00 0c 00  01 00 0d 00  06 01 02 016e 00
			02 00 00 00  04 00 00 00 00 00 00  016e 0a 016b`},
	}
}

func TestForms(t *testing.T) {
	for i, f := range forms() {
		want := raw(t, f.want)
		if got := f.k.write(f.x); !bytes.Equal(got, want) {
			t.Errorf("P9.1: the form %d: %s is % x, want % x", i, f.k.name, got, want)
		}
		if got, e := f.k.take(want); e != api.OK || !reflect.DeepEqual(got, f.x) {
			t.Errorf("P9.1: the form %d: Take%s: %#v, error %v; want %#v", i, f.k.name, got, e, f.x)
		}
	}
}

// Each field, each list and each thing of it, in package api's order.
func TestFullOnes(t *testing.T) {
	for _, k := range kinds() {
		x := k.full()
		want, _ := plain(x)
		if got := k.write(x.Interface()); !bytes.Equal(got, want) {
			t.Errorf("P9.1: %s is % x, want % x", k.name, got, want)
		}
		if got, e := k.take(want); e != api.OK || !reflect.DeepEqual(got, x.Interface()) {
			t.Errorf("P9.1: Take%s: %#v, error %v; want %#v", k.name, got, e, x)
		}
	}
}

// refused tells where Take answers otherwise than e, and zero.
func refused(t *testing.T, k kind, b []byte, want api.Errno, what string, at int) {
	got, e := k.take(b)
	if e != want {
		t.Errorf("P9.1: Take%s with %s at byte %d: error %v, want %v", k.name, what, at, e, want)
	}
	if !reflect.DeepEqual(got, k.none()) {
		t.Errorf("R4: Take%s with %s at byte %d: %#v beside an error", k.name, what, at, got)
	}
}

func TestTooShort(t *testing.T) {
	for _, k := range kinds() {
		refused(t, k, nil, api.ErrShort, "nothing", 0)
		for _, x := range []reflect.Value{k.full(), reflect.Zero(k.of)} {
			b, _ := plain(x)
			for size := range b {
				refused(t, k, b[:size], api.ErrShort, "an end", size)
			}
		}
	}
}

func TestBytesAreLeft(t *testing.T) {
	for _, k := range kinds() {
		for _, x := range []reflect.Value{k.full(), reflect.Zero(k.of)} {
			b, _ := plain(x)
			for _, more := range []string{"\x00", "\x01", "\x80", "\xff\xff", string(b)} {
				refused(t, k, append(bytes.Clone(b), more...), api.ErrForm, "bytes left", len(b))
			}
		}
	}
}

// At each number of each thing: what is no number, or too much there, is refused; what is behind it does not count, nor that nothing is.
func TestFaultsAtEachPlace(t *testing.T) {
	anywhere := []string{"80 00", "81 80 00", "ff ff ff ff ff ff ff ff ff 02", "80 80 80 80 80 80 80 80 80 80", "ff ff ff ff ff ff ff ff ff 7f"}
	there := map[string][]string{
		"bool": {"02", "03", "7f", "80 02", "ff ff ff ff ff ff ff ff ff 01"},
		"list": {"89 27", "ff ff 03", "ff ff ff ff ff ff ff ff ff 01"},
		"text": {"81 80 04", "ff ff ff ff ff ff ff ff ff 01"},
	}
	for _, k := range kinds() {
		b, marks := plain(k.full())
		for _, m := range marks {
			for _, s := range append(there[m.what], anywhere...) {
				bad := append(bytes.Clone(b[:m.at]), raw(t, s)...)
				refused(t, k, bad, api.ErrForm, m.what+" "+s, m.at)
				refused(t, k, append(bad, b...), api.ErrForm, m.what+" "+s+" and more", m.at)
			}
			for _, s := range []string{"80", "ff ff", "80 80 80 80 80 80 80 80 80"} {
				refused(t, k, append(bytes.Clone(b[:m.at]), raw(t, s)...), api.ErrShort, m.what+" "+s, m.at)
			}
		}
	}
}

// Of two faults the one ahead counts.
func TestFirstFault(t *testing.T) {
	rows := []struct {
		b string
		e api.Errno
	}{
		{"00 00 00 02 80", api.ErrForm},          // a bool, and an end
		{"00 00 00 00 01 02 61", api.ErrShort},   // an end: nothing is left
		{"00 00 00 00 88 27", api.ErrShort},      // a list of 5,000 without any
		{"00 00 00 00 88 27 80 00", api.ErrForm}, // the first of 5,000
		{"00 00 00 00 89 27 00", api.ErrForm},
		{"00 80 00 02", api.ErrForm},
	}
	k := kinds()[2]
	for _, r := range rows {
		refused(t, k, raw(t, r.b), r.e, r.b, 0)
	}
}

// The greatest list that is read, and one more, in the place of each list.
func TestLongLists(t *testing.T) {
	for _, k := range kinds() {
		x := k.full()
		for i, at := range places(x) {
			if at.Kind() != reflect.Slice || bytesOf(at) {
				continue
			}
			was := reflect.ValueOf(at.Interface())
			at.Set(reflect.MakeSlice(at.Type(), 5000, 5000))
			b, _ := plain(x)
			if got, e := k.take(b); e != api.OK || !reflect.DeepEqual(got, x.Interface()) {
				t.Errorf("P9.1: Take%s: 5,000 in the list at place %d: error %v", k.name, i, e)
			}
			at.Set(reflect.MakeSlice(at.Type(), 5001, 5001))
			b, _ = plain(x)
			if got := k.write(x.Interface()); !bytes.Equal(got, b) {
				t.Errorf("P9.1: %s: 5,001 in the list at place %d", k.name, i)
			}
			refused(t, k, b, api.ErrForm, "5,001 in a list", i)
			at.Set(was)
		}
	}
}

// The greatest text that is read, and one more, in the place of each text.
func TestLongTexts(t *testing.T) {
	long := func(at reflect.Value, size int) {
		s := strings.Repeat("\xffx", size)[:size]
		if at.Kind() == reflect.String {
			at.SetString(s)
			return
		}
		at.SetBytes([]byte(s))
	}
	for _, k := range kinds() {
		x := k.full()
		for i, at := range places(x) {
			if at.Kind() != reflect.String && (at.Kind() != reflect.Slice || !bytesOf(at)) {
				continue
			}
			was := reflect.ValueOf(at.Interface())
			long(at, 65536)
			b, _ := plain(x)
			if got, e := k.take(b); e != api.OK || !reflect.DeepEqual(got, x.Interface()) {
				t.Errorf("P9.1: Take%s: 65,536 bytes in the text at place %d: error %v", k.name, i, e)
			}
			long(at, 65537)
			b, _ = plain(x)
			if got := k.write(x.Interface()); !bytes.Equal(got, b) {
				t.Errorf("P9.1: %s: 65,537 bytes in the text at place %d", k.name, i)
			}
			refused(t, k, b, api.ErrForm, "65,537 bytes in a text", i)
			at.Set(was)
		}
	}
}

// Numbers are read as they were written, however great, and however far below 0: no kind, state or error that nobody knows is refused.
func TestFarNumbers(t *testing.T) {
	for _, k := range kinds() {
		x := k.full()
		for i, at := range places(x) {
			switch at.Kind() {
			case reflect.Uint64:
				for _, v := range []uint64{0, 127, 128, 1<<63 - 1, 1 << 63, math.MaxUint64} {
					at.SetUint(v)
					sameAgain(t, k, x, i)
				}
			case reflect.Int, reflect.Int64:
				for _, v := range []int64{0, -1, 63, -64, 64, -65, 1 << 40, math.MaxInt64, math.MinInt64} {
					at.SetInt(v)
					sameAgain(t, k, x, i)
				}
			case reflect.Bool:
				at.SetBool(false)
				sameAgain(t, k, x, i)
			}
		}
	}
}

// sameAgain: is x written as the chapter says, and read as it is?
func sameAgain(t *testing.T, k kind, x reflect.Value, place int) {
	want, _ := plain(x)
	got := k.write(x.Interface())
	if !bytes.Equal(got, want) {
		t.Errorf("P9.1: %s, changed at place %d, is % x, want % x", k.name, place, got, want)
	}
	if again, e := k.take(got); e != api.OK || !reflect.DeepEqual(again, x.Interface()) {
		t.Errorf("P9.1: Take%s of one that is changed at place %d: %#v, error %v", k.name, place, again, e)
	}
}

// Lists without anything are none: nil and empty are written as one, and read as none.
func TestEmptyIsNone(t *testing.T) {
	for _, k := range kinds() {
		x := k.full()
		for i, at := range places(x) {
			if at.Kind() != reflect.Slice {
				continue
			}
			was := reflect.ValueOf(at.Interface())
			at.Set(reflect.MakeSlice(at.Type(), 0, 3))
			empty := k.write(x.Interface())
			at.SetZero()
			if none := k.write(x.Interface()); !bytes.Equal(empty, none) {
				t.Errorf("R3: %s: nothing at place %d: % x and % x", k.name, i, empty, none)
			}
			if got, e := k.take(empty); e != api.OK || !reflect.DeepEqual(got, x.Interface()) {
				t.Errorf("P9.1: Take%s: nothing at place %d is not none: %#v, error %v", k.name, i, got, e)
			}
			at.Set(was)
		}
	}
}

// A Call's bytes are a command's, or anything: they are not looked into.
func TestDataIsAny(t *testing.T) {
	inner := wire.Command(api.Command{Kind: api.ShGive, Key: []byte("k")})
	c, e := wire.TakeCall(wire.Call(api.Call{Client: 1, Seq: 1, Data: inner}))
	if e != api.OK || !bytes.Equal(c.Data, inner) {
		t.Errorf("P9.1: a command in a call: %x, error %v", c.Data, e)
	}
}
