package pages_test

import (
	"bytes"
	"slices"
	"strings"
	"testing"

	"armoire/api"
	"armoire/pages"
)

// pair: one with that key, whose value and version tell of it.
func pair(key string) api.Pair {
	return api.Pair{Key: []byte(key), Value: []byte("value of " + key), Version: len(key) + 1}
}

// made: a map into which these keys were put, one by one.
func made(t *testing.T, keys ...string) *pages.Map {
	t.Helper()
	m := pages.New()
	for _, key := range keys {
		if e := m.Put(pair(key)); e != api.OK {
			t.Fatalf("P4.1: Put(%q): %v", key, e)
		}
	}
	return m
}

// equal: the same key, value and version.
func equal(a, b api.Pair) bool {
	return bytes.Equal(a.Key, b.Key) && bytes.Equal(a.Value, b.Value) && a.Version == b.Version
}

// keys: those of pairs, with a blank behind each.
func keys(list []api.Pair) string {
	s := ""
	for _, p := range list {
		s += string(p.Key) + " "
	}
	return s
}

// all: every pair of a map, rising.
func all(m *pages.Map) []api.Pair { return slices.Collect(m.Scan(api.Span{}, false)) }

// holds: the map has just these keys, which are given in order, each with its value and version.
func holds(t *testing.T, m *pages.Map, want ...string) {
	t.Helper()
	got := all(m)
	if keys(got) != keys(pairs(want)) || m.Len() != len(want) {
		t.Fatalf("%d keys are there: %q; want %q", m.Len(), keys(got), want)
	}
	for _, p := range got {
		if !equal(p, pair(string(p.Key))) {
			t.Errorf("P4.1: %q is there as %+v", p.Key, p)
		}
	}
}

// pairs: those of keys.
func pairs(keys []string) []api.Pair {
	var list []api.Pair
	for _, key := range keys {
		list = append(list, pair(key))
	}
	return list
}

func TestPutAndGet(t *testing.T) {
	m := pages.New()
	holds(t, m)
	for i, key := range []string{"m", "a", "z", "b", "m\x00", "\x00", "\xff", "\x80", "ma", "\x00\x00"} {
		if _, is := m.Get([]byte(key)); is {
			t.Errorf("P4.1: %q is there ahead of Put", key)
		}
		if e := m.Put(pair(key)); e != api.OK || m.Len() != i+1 {
			t.Errorf("P4.1: Put(%q): %v, %d are there", key, e, m.Len())
		}
		if p, is := m.Get([]byte(key)); !is || !equal(p, pair(key)) {
			t.Errorf("P4.1: Get(%q): %+v, %v", key, p, is)
		}
	}
	holds(t, m, "\x00", "\x00\x00", "a", "b", "m", "m\x00", "ma", "z", "\x80", "\xff")
}

// P4.1: a pair comes in the place of one with its key, as a whole.
func TestPutAgain(t *testing.T) {
	m := made(t, strings.Split("a b c d e f g h i j", " ")...)
	for i, p := range []api.Pair{
		{Key: []byte("e"), Value: []byte("another"), Version: 70},
		{Key: []byte("e"), Version: -3},
		{Key: []byte("e"), Value: []byte("v")},
		{Key: []byte("a"), Value: []byte("first"), Version: 1},
		{Key: []byte("j"), Value: []byte("last"), Version: 2},
	} {
		if e := m.Put(p); e != api.OK || m.Len() != 10 {
			t.Errorf("P4.1: Put %d: %v, %d are there", i, e, m.Len())
		}
		if got, is := m.Get(p.Key); !is || !equal(got, p) {
			t.Errorf("P4.1: Get behind Put %d: %+v, %v", i, got, is)
		}
	}
	if got := keys(all(m)); got != "a b c d e f g h i j " {
		t.Errorf("P4.1: the keys are %q", got)
	}
}

// refused: Put answers that error, and nothing is changed.
func refused(t *testing.T, m *pages.Map, p api.Pair, want api.Errno) {
	t.Helper()
	n := m.Len()
	if e := m.Put(p); e != want || m.Len() != n {
		t.Errorf("P4.1: Put of a key of %d and a value of %d bytes: %v, %d are there; want %v, %d", len(p.Key), len(p.Value), e, m.Len(), want, n)
	}
}

func TestPutRefuses(t *testing.T) {
	m := made(t, "b", "a")
	long, value := make([]byte, api.MaxKey+1), make([]byte, api.MaxValue+1)
	refused(t, m, api.Pair{}, api.ErrArg)
	refused(t, m, api.Pair{Key: []byte{}, Value: []byte("v"), Version: 1}, api.ErrArg)
	refused(t, m, api.Pair{Key: long}, api.ErrArg)
	refused(t, m, api.Pair{Key: make([]byte, 4*api.MaxKey)}, api.ErrArg)
	refused(t, m, api.Pair{Key: []byte("a"), Value: value, Version: 9}, api.ErrLong)
	refused(t, m, api.Pair{Key: []byte("c"), Value: make([]byte, 4*api.MaxValue)}, api.ErrLong)
	refused(t, m, api.Pair{Key: long[:api.MaxKey], Value: value}, api.ErrLong)
	refused(t, m, api.Pair{Value: value}, api.ErrArg) // what is named first counts
	refused(t, m, api.Pair{Key: long, Value: value}, api.ErrArg)
	holds(t, m, "a", "b")
}

// P4.1: as long as may be, and as short.
func TestPutAtTheBounds(t *testing.T) {
	m := pages.New()
	for _, p := range []api.Pair{
		{Key: bytes.Repeat([]byte{'k'}, api.MaxKey), Value: bytes.Repeat([]byte{'v'}, api.MaxValue), Version: 1 << 40},
		{Key: []byte{0}, Value: bytes.Repeat([]byte{'w'}, api.MaxValue), Version: -1},
		{Key: bytes.Repeat([]byte{'l'}, api.MaxKey)},
	} {
		if e := m.Put(p); e != api.OK {
			t.Errorf("P4.1: Put at the bounds: %v", e)
		}
		if got, is := m.Get(p.Key); !is || !equal(got, p) {
			t.Errorf("P4.1: Get at the bounds: %v, a key of %d and a value of %d bytes", is, len(got.Key), len(got.Value))
		}
	}
}

func TestGetOfNone(t *testing.T) {
	m := made(t, "b", "bb", "d")
	for _, key := range []string{"", "a", "b\x00", "ba", "bbb", "c", "e", "B", strings.Repeat("b", api.MaxKey+1)} {
		if p, is := m.Get([]byte(key)); is || p.Key != nil || p.Value != nil || p.Version != 0 {
			t.Errorf("P4.1: Get(%q): %+v, %v; it is not there", key, p, is)
		}
	}
	if _, is := m.Get(nil); is {
		t.Error("P4.1: Get(nil) finds something")
	}
}

func TestDrop(t *testing.T) {
	m := made(t, "a", "b", "c", "d")
	for _, key := range []string{"", "A", "a\x00", "bb", "e", strings.Repeat("a", api.MaxKey+1)} {
		if m.Drop([]byte(key)) {
			t.Errorf("P4.1: Drop(%q): it was not there", key)
		}
	}
	if m.Drop(nil) {
		t.Error("P4.1: Drop(nil): it was not there")
	}
	holds(t, m, "a", "b", "c", "d")
	for _, c := range []struct{ key, left string }{{"b", "a c d"}, {"d", "a c"}, {"a", "c"}} {
		if !m.Drop([]byte(c.key)) {
			t.Errorf("P4.1: Drop(%q): it was there", c.key)
		}
		if m.Drop([]byte(c.key)) {
			t.Errorf("P4.1: Drop(%q), a second time: it was there", c.key)
		}
		if _, is := m.Get([]byte(c.key)); is {
			t.Errorf("P4.1: %q is there behind Drop", c.key)
		}
		holds(t, m, strings.Split(c.left, " ")...)
	}
	if !m.Drop([]byte("c")) || m.Drop([]byte("c")) {
		t.Error("P4.1: Drop of the last key")
	}
	holds(t, m)
	if e := m.Put(pair("c")); e != api.OK {
		t.Errorf("P4.1: Put behind Drop: %v", e)
	}
	holds(t, m, "c")
}

// R1, and what a nil map answers.
func TestNil(t *testing.T) {
	var m *pages.Map
	if e := m.Put(pair("a")); e != api.ErrNil {
		t.Errorf("P4.2: Put into nil: %v", e)
	}
	if e := m.Put(api.Pair{Value: make([]byte, api.MaxValue+1)}); e != api.ErrNil {
		t.Errorf("P4.2: a wrong Put into nil: %v; what is named first counts", e)
	}
	if p, is := m.Get([]byte("a")); is || p.Key != nil || p.Value != nil || p.Version != 0 {
		t.Errorf("P4.2: Get of nil: %+v, %v", p, is)
	}
	if m.Drop([]byte("a")) || m.Drop(nil) {
		t.Error("P4.2: Drop of nil")
	}
	if m.Len() != 0 || len(m.Sizes()) != 0 || m.Fork() != nil || len(m.Take(api.Span{})) != 0 {
		t.Error("P4.2: Len, Sizes, Fork or Take of nil")
	}
	for _, back := range []bool{false, true} {
		for _, s := range []api.Span{{}, {From: []byte("a")}, {To: []byte("a")}, {From: []byte("b"), To: []byte("a")}} {
			for p := range m.Scan(s, back) {
				t.Errorf("P4.2: Scan of nil tells %+v", p)
			}
		}
	}
}

// R1: a map that New did not make is one without a key.
func TestZeroMap(t *testing.T) {
	var m pages.Map
	holds(t, &m)
	if m.Drop([]byte("a")) || len(m.Take(api.Span{})) != 0 || len(m.Sizes()) != 0 {
		t.Error("R1: a zero map has something")
	}
	holds(t, m.Fork())
	if e := m.Put(pair("a")); e != api.OK {
		t.Errorf("R1: Put into a zero map: %v", e)
	}
	holds(t, &m, "a")
}
