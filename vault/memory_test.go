package vault_test

import (
	"bytes"
	"slices"
	"testing"

	"armoire/api"
	"armoire/vault"
)

// roomy is l with room behind the ends of all that it has, full of bytes 7.
func roomy(l api.Log) api.Log {
	behind := func(b []byte) []byte {
		return append(slices.Clone(b), bytes.Repeat([]byte{7}, 50)...)[:len(b)]
	}
	l.Snap.Data = behind(l.Snap.Data)
	n := len(l.Entries)
	l.Entries = append(slices.Clone(l.Entries), api.Entry{Term: 7}, api.Entry{Term: 7})[:n]
	for i := range l.Entries {
		l.Entries[i].Data = behind(l.Entries[i].Data)
	}
	return l
}

// spoil writes into all that a log has, and the room behind it.
func spoil(l api.Log) {
	full := func(b []byte) { copy(b[:cap(b)], bytes.Repeat([]byte{'#'}, cap(b))) }
	full(l.Snap.Data)
	for i := range l.Entries {
		full(l.Entries[i].Data)
	}
	all := l.Entries[:cap(l.Entries)]
	for i := range all {
		all[i] = api.Entry{Term: 99}
	}
}

// R3: what is handed in is neither changed nor kept, with the room behind its ends.
func TestArgumentsStay(t *testing.T) {
	d := made(t, 300)
	v := opened(t, d)
	for _, want := range []api.Log{good(), more(good(), 20, 0), snapped(good(), 8, 30), {}, good()} {
		l := roomy(want)
		put(t, v, l)
		vault.Right(l)
		for _, b := range [][]byte{l.Snap.Data, l.Entries[:len(l.Entries)+1][len(l.Entries)].Data} {
			if behind := b[len(b):cap(b)]; len(behind) > 50 && !bytes.Equal(behind[:50], bytes.Repeat([]byte{7}, 50)) {
				t.Error("R3: the room behind is changed")
			}
		}
		if !same(l, want) || l.Entries[:len(l.Entries)+1][len(l.Entries)].Term != 7 {
			t.Error("R3: what was handed in is changed")
		}
		spoil(l)
		has(t, v, want)
		has(t, opened(t, d), want)
		put(t, v, more(want, 1))
		has(t, opened(t, d), more(want, 1))
	}
}

// R3: what is handed out is new memory, each list its own.
func TestAnswersAreNew(t *testing.T) {
	d := made(t, 300)
	v := opened(t, d)
	put(t, v, more(good(), 20, 0, 5))
	for _, v := range []*vault.Vault{v, opened(t, d)} {
		for range 2 {
			a, b := v.Log(), v.Log()
			for i := range a.Entries {
				a.Entries[i].Data = append(a.Entries[i].Data, bytes.Repeat([]byte{'#'}, 60)...)[:len(a.Entries[i].Data)]
			}
			a.Snap.Data = append(a.Snap.Data, '#')[:len(a.Snap.Data)]
			if !same(a, b) {
				t.Error("R3: two lists of one answer share memory")
			}
			_ = append(a.Entries, api.Entry{Term: 99})
			spoil(a)
			has(t, v, b)
			spoil(b)
			has(t, v, more(good(), 20, 0, 5))
		}
		put(t, v, more(more(good(), 20, 0, 5), 8))
		put(t, v, more(good(), 20, 0, 5))
	}
}

// R3: no bytes and nil, no entries and nil are the same.
func TestNilIsEmpty(t *testing.T) {
	d := made(t, 300)
	v := opened(t, d)
	a := api.Log{Hard: api.Hard{Term: 1}, Entries: []api.Entry{{Term: 1, Index: 1}, {Term: 1, Index: 2, Data: []byte{}}}}
	b := api.Log{Hard: api.Hard{Term: 1}, Snap: api.Snap{Data: []byte{}}, Entries: []api.Entry{{Term: 1, Index: 1, Data: []byte{}}, {Term: 1, Index: 2}}}
	for range 3 {
		put(t, v, a)
		has(t, opened(t, d), b)
		put(t, v, b)
		has(t, opened(t, d), a)
		put(t, v, api.Log{Entries: []api.Entry{}})
		has(t, opened(t, d), api.Log{})
	}
}

// R2: a vault hangs on its own disk alone.
func TestTwoDisks(t *testing.T) {
	d := made(t, 300)
	put(t, opened(t, d), good())
	f := d.Fork()
	v, w := opened(t, d), opened(t, f)
	put(t, v, more(good(), 1))
	put(t, w, more(good(), 2))
	put(t, w, more(good(), 3))
	has(t, v, more(good(), 1))
	has(t, opened(t, d), more(good(), 1))
	has(t, opened(t, f), more(good(), 3))
}
