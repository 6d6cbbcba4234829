package lock_test

import (
	"testing"

	"armoire/api"
	"armoire/lock"
)

// pairs are two locks each, and whether they disturb each other.
var pairs = []struct {
	what string
	a, b api.Held
	is   bool
}{
	{"nothing, and nothing", api.Held{}, api.Held{}, false},
	{"nothing, and all", api.Held{}, join(read(0, "a"), over(0, span("", "")), write(0, "a")), false},
	{"two that read a key", read(0, "a"), read(0, "a"), false},
	{"two that read spans", over(0, span("", "")), over(0, span("a", "b")), false},
	{"a key, and a span with it", read(0, "a"), over(0, span("a", "b")), false},

	{"a key that is read and written", read(0, "a"), write(0, "a"), true},
	{"a key that is read, and goes", read(0, "b"), write(0, "a", "b"), true},
	{"two that write a key", write(0, "a"), write(0, "a"), true},
	{"two by which a key goes", write(0, "a", "k"), write(0, "b", "k"), true},
	{"other keys", join(read(0, "a"), write(0, "b")), join(read(0, "c"), write(0, "d")), false},
	{"one that another begins with", read(0, "a"), write(0, "aa"), false},
	{"a key with a 0 behind it", read(0, "a"), write(0, "a\x00"), false},
	{"two written ones, one with a 0", write(0, "a\x00"), write(0, "a"), false},
	{"another letter case", read(0, "a"), write(0, "A"), false},
	{"no bytes", read(0, ""), write(0, ""), true},
	{"no bytes, and a 0", read(0, ""), write(0, "\x00"), false},
	{"bytes that are no text", read(0, "\xff\xfe"), write(0, "\xff\xfe"), true},
	{"bytes that are no text, others", read(0, "\xff"), write(0, "\xfe"), false},
	{"bytes that look alike as text", read(0, "\xef\xbf\xbd"), write(0, "\xff"), false},

	{"at From", over(0, span("m", "p")), write(0, "m"), true},
	{"behind From", over(0, span("m", "p")), write(0, "n"), true},
	{"just below To", over(0, span("m", "p")), write(0, "o\xff\xff"), true},
	{"at To", over(0, span("m", "p")), write(0, "p"), false},
	{"behind To", over(0, span("m", "p")), write(0, "p\x00"), false},
	{"just below From", over(0, span("m", "p")), write(0, "l\xff\xff"), false},
	{"no bytes, below From", over(0, span("m", "p")), write(0, ""), false},
	{"without an end", over(0, span("m", "")), write(0, "\xff\xff\xff"), true},
	{"without an end, below From", over(0, span("m", "")), write(0, "l"), false},
	{"without a beginning", over(0, span("", "m")), write(0, ""), true},
	{"without a beginning, at To", over(0, span("", "m")), write(0, "m"), false},
	{"all", over(0, span("", "")), write(0, "a"), true},
	{"one key alone", over(0, span("a", "a\x00")), write(0, "a"), true},
	{"one key alone, another one", over(0, span("a", "a\x00")), write(0, "a\x00"), false},
	{"a span without a key", over(0, span("m", "m")), write(0, "m"), false},
	{"a span that ends ahead of its From", over(0, span("p", "m")), write(0, "n"), false},
	{"the same, at its ends", over(0, span("p", "m")), write(0, "m", "p"), false},
	{"bytes above 7f", over(0, span("\x7f", "\x81")), write(0, "\x80"), true},

	{"the last of spans", over(0, span("a", "b"), span("d", "c"), span("m", "p")), write(0, "n"), true},
	{"the last of keys", read(0, "a", "b", "c"), write(0, "d", "e", "c"), true},
	{"between spans", over(0, span("a", "c"), span("d", "f")), write(0, "c"), false},
	{"both read and write, and it is their own", join(read(0, "a"), over(0, span("b", "d")), write(0, "a", "c")), join(read(0, "e"), write(0, "e")), false},
	{"each reads what the other one writes", join(read(0, "a"), write(0, "b")), join(read(0, "b"), write(0, "a")), true},
	{"one reads what the other one writes", join(read(0, "a"), write(0, "b")), join(over(0, span("b", "c")), write(0, "d")), true},
}

// P15.1: which locks are in each other's way: the same ones, whoever is there first, and whatever else is there.
func TestMay(t *testing.T) {
	for _, p := range pairs {
		want := api.OK
		if p.is {
			want = api.ErrLocked
		}
		for _, two := range [][2]api.Held{{p.a, p.b}, {p.b, p.a}} {
			there, asked := two[0], two[1]
			there.Txn, asked.Txn = 7, 3
			if e := made(t, there).May(asked); e != want {
				t.Errorf("P15.1: %s: May of %v behind %v: %v; want %v", p.what, asked, there, e, want)
			}
			x := made(t, api.Held{Txn: 1}, there, api.Held{Txn: 9})
			if e := x.Put(asked); e != want {
				t.Errorf("P15.1: %s: Put of %v behind more than %v: %v; want %v", p.what, asked, there, e, want)
			}
		}
	}
}

// P15.2: Free asks who writes the key, Clear and Touches of a span of it alone likewise; whether one who reads is in the way is asked of Touches alone.
func TestFree(t *testing.T) {
	x := made(t, three()...)
	for key, want := range map[string]struct{ written, read bool }{
		"":          {false, true},
		"Z":         {false, true},
		"a":         {false, true},
		"a\x00":     {false, false},
		"b":         {false, true},
		"c":         {true, false},
		"c\x00":     {false, false},
		"d":         {true, false},
		"e":         {true, true},
		"f":         {true, false},
		"g":         {false, false},
		"l\xff":     {false, false},
		"m":         {false, true},
		"o\xff\xff": {false, true},
		"p":         {false, false},
		"q":         {false, true},
		"qq":        {false, true},
		"r":         {false, false},
		"z":         {true, false},
		"zz":        {false, false},
		"\xff":      {false, false},
	} {
		alone := span(key, key+"\x00")
		if x.Free([]byte(key)) == want.written {
			t.Errorf("P15.2: Free(%q): %v", key, !want.written)
		}
		if x.Clear(alone) == want.written {
			t.Errorf("P15.2: Clear of %q alone: %v", key, !want.written)
		}
		if is := want.written || want.read; x.Touches(alone) != is {
			t.Errorf("P15.2: Touches of %q alone: %v", key, !is)
		}
	}
	if !lock.New().Free([]byte("a")) || !lock.New().Clear(api.Span{}) || lock.New().Touches(api.Span{}) {
		t.Error("P15.2: a table without a lock has something")
	}
}

// P15.2: Clear, at all edges; who reads is not in the way.
func TestClear(t *testing.T) {
	x := made(t, join(write(1, "c"), over(1, span("a", "b"))), join(write(2, "y", "k"), read(2, "n")))
	for _, r := range []struct {
		from, to string
		clear    bool
	}{
		{"", "", false}, {"", "c", true}, {"", "c\x00", false}, {"", "\xff", false}, {"", "\x00", true},
		{"a", "b", true}, {"c", "c\x00", false}, {"c", "c", true}, {"c", "b", true}, {"c", "", false},
		{"b", "d", false}, {"b\xff", "c\x00", false}, {"c\x00", "k", true}, {"c\x00", "k\x00", false},
		{"d", "a", true}, {"z", "a", true}, {"k\x00", "y", true}, {"n", "n\x00", true}, {"l", "z", false},
		{"y", "", false}, {"y\x00", "", true}, {"z", "", true}, {"\xff", "", true},
	} {
		if is := x.Clear(span(r.from, r.to)); is != r.clear {
			t.Errorf("P15.2: Clear of %q to %q: %v", r.from, r.to, is)
		}
	}
}

// P15.2: Touches, of a key that is read, one that is written, one that goes, and spans, at all edges.
func TestTouches(t *testing.T) {
	for _, r := range []struct {
		what  string
		h     api.Held
		spans map[api.Errno][]api.Span // OK: it touches; ErrNone: it does not
	}{
		{"a key that is read", read(1, "k"), aroundKey()},
		{"a key that is written", write(1, "k"), aroundKey()},
		{"a key that goes", api.Held{Txn: 1, Writes: []api.Write{{Key: []byte("k"), Drop: true}}}, aroundKey()},
		{"a span of one key", over(1, span("k", "k\x00")), aroundKey()},
		{"a span", over(1, span("k", "n")), map[api.Errno][]api.Span{
			api.OK: {span("", ""), span("k", "n"), span("k", "k\x00"), span("l", "m"), span("j", "k\x00"), span("a", "z"), span("m\xff", "n"), span("m\xff", ""), span("m", "z"), span("", "l"), span("k", ""), span("k\x00", "l")},
			api.ErrNone: {span("", "k"), span("j", "k"), span("n", "n\x00"), span("n", "z"), span("n", ""), span("z", ""), span("", "a"), span("", "\x00"),
				span("l", "l"), span("m", "l"), span("n", "k"), span("k", "k"), span("z", "a"), span("m", "a"), span("z", "l")},
		}},
		{"a span without an end", over(1, span("k", "")), map[api.Errno][]api.Span{
			api.OK:      {span("", ""), span("k", ""), span("a", ""), span("z", ""), span("\xff\xff", ""), span("a", "k\x00"), span("k", "k\x00"), span("l", "z")},
			api.ErrNone: {span("", "k"), span("a", "k"), span("", "a"), span("m", "l"), span("z", "k"), span("l", "l")},
		}},
		{"a span without a beginning", over(1, span("", "k")), map[api.Errno][]api.Span{
			api.OK:      {span("", ""), span("", "\x00"), span("", "a"), span("a", ""), span("j\xff", ""), span("j", "z"), span("a", "b")},
			api.ErrNone: {span("k", ""), span("k", "z"), span("z", ""), span("b", "a"), span("z", "a"), span("a", "a")},
		}},
		{"all", over(1, span("", "")), map[api.Errno][]api.Span{
			api.OK:      {span("", ""), span("", "\x00"), span("a", "b"), span("z", ""), span("\xff", "")},
			api.ErrNone: {span("a", "a"), span("b", "a"), span("\xff", "\x00")},
		}},
		{"spans without a key", over(1, span("m", "m"), span("n", "k"), span("a", "a"), span("z", "b")), map[api.Errno][]api.Span{
			api.ErrNone: {span("", ""), span("a", "z"), span("m", "m\x00"), span("l", "m"), span("n", "k"), span("z", ""), span("", "b"), span("c", "d")},
		}},
		{"nothing", api.Held{Txn: 1}, map[api.Errno][]api.Span{api.ErrNone: {span("", ""), span("a", "b"), span("", "\x00")}}},
	} {
		x := made(t, r.h)
		for e, spans := range r.spans {
			for _, s := range spans {
				if is := x.Touches(s); is != (e == api.OK) {
					t.Errorf("P15.2: %s: Touches of %q to %q: %v", r.what, s.From, s.To, is)
				}
			}
		}
	}
}

// aroundKey is spans that have the key k, and others.
func aroundKey() map[api.Errno][]api.Span {
	return map[api.Errno][]api.Span{
		api.OK:      {span("", ""), span("k", ""), span("k", "k\x00"), span("a", "k\x00"), span("", "k\x00"), span("j\xff", "l"), span("a", "z"), span("", "z")},
		api.ErrNone: {span("", "k"), span("a", "k"), span("k\x00", ""), span("l", "z"), span("k", "k"), span("k", "a"), span("z", "a"), span("l", "k"), span("", "\x00")},
	}
}

// P15.2: all locks count, not the first one, or the last one, alone.
func TestAllCount(t *testing.T) {
	x := made(t, write(1, "b"), write(2, "d"), write(3, "f"))
	y := made(t, read(1, "b"), over(2, span("d", "e")), write(3, "f"))
	for _, key := range []string{"b", "d", "f"} {
		s := span(key, key+"\x00")
		if x.Free([]byte(key)) || x.Clear(s) || !x.Touches(s) || x.May(read(9, key)) != api.ErrLocked {
			t.Errorf("P15: %q is written, but not found", key)
		}
		if !y.Touches(s) || y.May(write(9, key)) != api.ErrLocked {
			t.Errorf("P15: %q is touched, but not found", key)
		}
	}
}
