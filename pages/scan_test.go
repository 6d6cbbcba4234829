package pages_test

import (
	"slices"
	"strings"
	"testing"

	"armoire/api"
	"armoire/pages"
)

// span: the keys from one on, below another one.
func span(from, to string) api.Span {
	return api.Span{From: []byte(from), To: []byte(to)}
}

// many: the small letters, out of order, so that there are some pages.
func many() []string {
	var list []string
	for i := range 26 {
		list = append(list, string(rune('a'+i*7%26)))
	}
	return list
}

var parts = []struct{ from, to, want string }{
	{"", "", "a b c d e f g h i j k l m n o p q r s t u v w x y z "},
	{"a", "", "a b c d e f g h i j k l m n o p q r s t u v w x y z "},
	{"", "{", "a b c d e f g h i j k l m n o p q r s t u v w x y z "},
	{"A", "zz", "a b c d e f g h i j k l m n o p q r s t u v w x y z "},
	{"", "d", "a b c "},
	{"", "d\x00", "a b c d "},
	{"w", "", "w x y z "},
	{"w\x00", "", "x y z "},
	{"z", "", "z "},
	{"z\x00", "", ""},
	{"\xff", "", ""},
	{"", "a", ""},
	{"", "a\x00", "a "},
	{"", "\x00", ""},
	{"c", "g", "c d e f "},
	{"c\x00", "g", "d e f "},
	{"c", "g\x00", "c d e f g "},
	{"b", "y", "b c d e f g h i j k l m n o p q r s t u v w x "},
	{"k", "l", "k "},
	{"k", "k\x00", "k "},
	{"k\x00", "l", ""},
	{"k", "k", ""},
	{"kk", "kk", ""},
	{"l", "k", ""},
	{"z", "a", ""},
	{"zz", "A", ""},
}

// turned: keys, the other way round.
func turned(list string) string {
	l := strings.Fields(list)
	slices.Reverse(l)
	return keys(pairs(l))
}

func TestScan(t *testing.T) {
	m := made(t, many()...)
	for _, c := range parts {
		if got := keys(slices.Collect(m.Scan(span(c.from, c.to), false))); got != c.want {
			t.Errorf("P4.2: from %q below %q: %q; want %q", c.from, c.to, got, c.want)
		}
		if got := keys(slices.Collect(m.Scan(span(c.from, c.to), true))); got != turned(c.want) {
			t.Errorf("P4.2: from %q below %q, back: %q; want %q", c.from, c.to, got, turned(c.want))
		}
	}
	for _, s := range []api.Span{{}, {From: []byte{}}, {To: []byte{}}} {
		if n := len(slices.Collect(m.Scan(s, false))); n != 26 {
			t.Errorf("P4.2: no bytes are a bound: %d pairs", n)
		}
	}
}

// P4.2: pairs are told whole.
func TestScanTellsPairs(t *testing.T) {
	m := made(t, many()...)
	for _, back := range []bool{false, true} {
		n := 0
		for p := range m.Scan(span("c", "t"), back) {
			if !equal(p, pair(string(p.Key))) {
				t.Errorf("P4.2: %q is told as %+v", p.Key, p)
			}
			n++
		}
		if n != 17 {
			t.Errorf("P4.2: %d pairs are told", n)
		}
	}
}

func TestScanOfNothing(t *testing.T) {
	for _, c := range parts {
		for p := range pages.New().Scan(span(c.from, c.to), false) {
			t.Errorf("P4.2: a new map tells %+v", p)
		}
		for p := range pages.New().Scan(span(c.from, c.to), true) {
			t.Errorf("P4.2: a new map tells, back, %+v", p)
		}
	}
}

// P4.2, R6: what is told is what was there when it was asked for, whatever comes then, each time.
func TestScanStays(t *testing.T) {
	m := made(t, many()...)
	up, down, none := m.Scan(span("c", "m"), false), m.Scan(span("c", "m"), true), pages.New().Scan(api.Span{}, false)
	stays := func(behind string) {
		t.Helper()
		want := "c d e f g h i j k l "
		for range 2 {
			got := slices.Collect(up)
			if keys(got) != want || !equal(got[2], pair("e")) {
				t.Errorf("P4.2: behind %s: %q", behind, keys(got))
			}
			if got := keys(slices.Collect(down)); got != turned(want) {
				t.Errorf("P4.2: behind %s, back: %q", behind, got)
			}
		}
	}
	stays("nothing")
	m.Put(api.Pair{Key: []byte("e"), Value: []byte("another")})
	stays("Put of a key that is there")
	for _, key := range []string{"bb", "cc", "ee", "eee", "g\x00", "kk", "ll"} {
		m.Put(pair(key))
	}
	stays("Put of others")
	for _, key := range []string{"a", "c", "d", "ee", "h", "l", "z"} {
		m.Drop([]byte(key))
	}
	stays("Drop")
	m.Take(span("b", "k"))
	stays("Take")
	m.Take(api.Span{})
	stays("Take of all")
	for range none {
		t.Error("P4.2: a scan of nothing tells something")
	}
}

// R6: a scan stops as soon as it is told to, and begins anew.
func TestScanStops(t *testing.T) {
	m := made(t, many()...)
	for n := 1; n <= 26; n++ {
		for _, back := range []bool{false, true} {
			it := m.Scan(api.Span{}, back)
			want := slices.Collect(it)[:n]
			for range 2 {
				var got []api.Pair
				it(func(p api.Pair) bool {
					got = append(got, p)
					return len(got) < n
				})
				if keys(got) != keys(want) {
					t.Errorf("R6: stopped behind %d: %q", n, keys(got))
				}
			}
		}
	}
}

// Changes while a scan goes on change nothing of it; another one may go on within it.
func TestScanGoesOn(t *testing.T) {
	m := made(t, many()...)
	var got []api.Pair
	for p := range m.Scan(api.Span{}, false) {
		m.Drop(p.Key)
		m.Put(pair(string(p.Key) + "\x00"))
		if n := len(slices.Collect(m.Scan(api.Span{}, true))); n != 26 {
			t.Errorf("P4.2: a scan within a scan tells %d pairs", n)
		}
		got = append(got, p)
	}
	if keys(got) != parts[0].want {
		t.Errorf("P4.2: while it is changed: %q", keys(got))
	}
	if p, is := m.Get([]byte("a")); is {
		t.Errorf("P4.1: behind Drop: %+v", p)
	}
}

// left: what a list has that another one has not.
func left(list, gone string) string {
	var l []string
	for _, key := range strings.Fields(list) {
		if !slices.Contains(strings.Fields(gone), key) {
			l = append(l, key)
		}
	}
	return keys(pairs(l))
}

func TestTake(t *testing.T) {
	for _, c := range parts {
		m := made(t, many()...)
		got := m.Take(span(c.from, c.to))
		if keys(got) != c.want {
			t.Errorf("P4.2: Take from %q below %q: %q; want %q", c.from, c.to, keys(got), c.want)
		}
		for _, p := range got {
			if !equal(p, pair(string(p.Key))) {
				t.Errorf("P4.2: %q is taken as %+v", p.Key, p)
			}
			if _, is := m.Get(p.Key); is {
				t.Errorf("P4.2: %q is there behind Take", p.Key)
			}
		}
		holds(t, m, strings.Fields(left(parts[0].want, c.want))...)
		if again := m.Take(span(c.from, c.to)); len(again) != 0 {
			t.Errorf("P4.2: Take, a second time: %q", keys(again))
		}
	}
	if got := pages.New().Take(api.Span{}); len(got) != 0 {
		t.Errorf("P4.2: Take of nothing: %q", keys(got))
	}
}

// P4.2: a fork is alike, and each goes its own way.
func TestFork(t *testing.T) {
	m := made(t, many()...)
	alike, put, drop, take := m.Fork(), m.Fork(), m.Fork(), m.Fork()
	letters := strings.Fields(parts[0].want)
	put.Put(pair("aa"))
	put.Put(pair("zz"))
	drop.Drop([]byte("a"))
	drop.Drop([]byte("z"))
	take.Take(span("b", "z"))
	of := take.Fork()
	m.Put(pair("mm"))
	m.Put(api.Pair{Key: []byte("m"), Value: []byte("another"), Version: 5})
	m.Take(span("n", ""))
	of.Put(pair("m"))

	holds(t, alike, letters...)
	holds(t, put, slices.Concat([]string{"a", "aa"}, letters[1:], []string{"zz"})...)
	holds(t, drop, letters[1:25]...)
	holds(t, take, "a", "z")
	holds(t, of, "a", "m", "z")
	if got := keys(all(m)); got != keys(pairs(letters[:13]))+"mm " {
		t.Errorf("P4.2: the map of forks: %q", got)
	}
	if !slices.Equal(alike.Sizes(), made(t, many()...).Sizes()) {
		t.Errorf("P4.2: a fork's pages: %v", alike.Sizes())
	}
	none := pages.New().Fork()
	holds(t, none)
	none.Put(pair("a"))
	holds(t, none, "a")
}
