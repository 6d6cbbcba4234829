package pages_test

import (
	"bytes"
	"slices"
	"strings"
	"testing"

	"armoire/api"
	"armoire/pages"
)

// roomy: bytes with room behind their end, and that room.
func roomy(s string) (b, room []byte) {
	all := []byte(s + "room")
	return all[:len(s)], all[len(s):]
}

// spoil writes over a pair's bytes, and over the room behind them.
func spoil(p api.Pair) {
	for _, b := range [][]byte{p.Key, p.Value} {
		b = b[:cap(b)]
		for i := range b {
			b[i] = '#'
		}
	}
}

// R3: what is handed in is not changed, with the room behind it.
func TestArgumentsStay(t *testing.T) {
	m := made(t, many()...)
	key, keyRoom := roomy("k")
	value, valueRoom := roomy("v")
	to, toRoom := roomy("m")
	m.Put(api.Pair{Key: key, Value: value})
	for range m.Scan(api.Span{From: key, To: to}, false) {
	}
	for range m.Scan(api.Span{From: key, To: to}, true) {
	}
	m.Get(key)
	m.Take(api.Span{From: key, To: to})
	m.Put(api.Pair{Key: key, Value: value})
	m.Drop(key)
	if string(key) != "k" || string(value) != "v" || string(to) != "m" {
		t.Errorf("R3: what was handed in is changed: %q, %q, %q", key, value, to)
	}
	if string(keyRoom) != "room" || string(valueRoom) != "room" || string(toRoom) != "room" {
		t.Errorf("R3: the room behind it is changed: %q, %q, %q", keyRoom, valueRoom, toRoom)
	}
}

// R3: what is handed in is not kept.
func TestArgumentsAreNotKept(t *testing.T) {
	m := pages.New()
	for _, key := range many() {
		p := pair(key)
		m.Put(p)
		spoil(p)
	}
	p := pair("k")
	m.Put(p)
	spoil(p)
	holds(t, m, strings.Fields(parts[0].want)...)

	s := span("c", "f")
	up, down := m.Scan(s, false), m.Scan(s, true)
	s.From[0], s.To[0] = 'a', 'z'
	if a, b := keys(slices.Collect(up)), keys(slices.Collect(down)); a != "c d e " || b != "e d c " {
		t.Errorf("R3: a scan keeps its span: %q, %q", a, b)
	}
}

// R3: what is handed out is new memory.
func TestAnswersAreNew(t *testing.T) {
	m := made(t, many()...)
	f, it := m.Fork(), m.Scan(api.Span{}, true)
	letters := strings.Fields(parts[0].want)
	for range 2 {
		for p := range it {
			spoil(p)
		}
		for p := range m.Scan(api.Span{}, false) {
			spoil(p)
		}
		p, _ := m.Get([]byte("k"))
		spoil(p)
		sizes := m.Sizes()
		sizes[0] = -1
		if slices.Contains(m.Sizes(), -1) {
			t.Error("R3: Sizes is written into")
		}
		holds(t, m, letters...)
		holds(t, f, letters...)
	}
	for _, p := range m.Take(span("d", "w")) {
		spoil(p)
	}
	holds(t, f, letters...)
	if got := keys(slices.Collect(it)); got != turned(parts[0].want) {
		t.Errorf("R3: a scan that was asked for earlier: %q", got)
	}
	if got := f.Take(span("d", "f")); len(got) != 2 || !equal(got[0], pair("d")) || !equal(got[1], pair("e")) {
		t.Errorf("R3: Take of a fork: %+v", got)
	}
}

// R3: no two lists of one answer share any.
func TestAnswersShareNothing(t *testing.T) {
	m := made(t, many()...)
	list := m.Take(api.Span{})
	spoil(list[3])
	for i, p := range list {
		if i != 3 && !equal(p, pair(string(rune('a'+i)))) {
			t.Errorf("R3: %d, of those that were taken: %+v", i, p)
		}
	}
	m = made(t, "a")
	p, _ := m.Get([]byte("a"))
	_ = append(p.Key, "###################"...)
	if !bytes.Equal(p.Value, pair("a").Value) {
		t.Errorf("R3: the value stands behind the key: %q", p.Value)
	}
}
