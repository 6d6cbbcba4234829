package lock_test

import (
	"bytes"
	"cmp"
	"math/rand/v2"
	"slices"
	"testing"

	"armoire/api"
	"armoire/lock"
)

// someKeys are all keys of which bounds, and what is read and written, are made: two spans have some key if they have one of these.
var someKeys = []string{"", "\x00", "a", "a\x00", "a\x00\x00", "aa", "ab", "b", "m", "m\xff", "z", "\xff", "\xff\xff"}

// plain is a lock, with all of someKeys that it reads, and that it writes.
type plain struct {
	h             api.Held
	reads, writes map[string]bool
}

// within: is the key of the span?
func within(s api.Span, key string) bool {
	return key >= string(s.From) && (len(s.To) == 0 || key < string(s.To))
}

// listed is a lock with its keys one by one.
func listed(h api.Held) plain {
	p := plain{h: h, reads: map[string]bool{}, writes: map[string]bool{}}
	for _, k := range someKeys {
		p.reads[k] = slices.ContainsFunc(h.Keys, func(b []byte) bool { return string(b) == k }) ||
			slices.ContainsFunc(h.Spans, func(s api.Span) bool { return within(s, k) })
		p.writes[k] = slices.ContainsFunc(h.Writes, func(w api.Write) bool { return string(w.Key) == k })
	}
	return p
}

// day is a table, and the list of locks that it has to be.
type day struct {
	t     *testing.T
	r     *rand.Rand
	x     *lock.Table
	locks []plain
}

func (d *day) key() []byte { return []byte(someKeys[d.r.IntN(len(someKeys))]) }

func (d *day) span() api.Span {
	s := api.Span{From: d.key(), To: d.key()}
	if bytes.Compare(s.From, s.To) > 0 && d.r.IntN(3) > 0 {
		s.From, s.To = s.To, s.From
	}
	return s
}

// held is some lock: of most kinds of things few, or none.
func (d *day) held() api.Held {
	h := api.Held{Txn: uint64(d.r.IntN(8))}
	for range max(0, d.r.IntN(5)-2) {
		h.Keys = append(h.Keys, d.key())
	}
	for range max(0, d.r.IntN(4)-2) {
		h.Spans = append(h.Spans, d.span())
	}
	for range max(0, d.r.IntN(5)-2) {
		h.Writes = append(h.Writes, api.Write{Key: d.key(), Value: []byte{byte(d.r.Uint32())}, Drop: d.r.IntN(3) == 0})
	}
	return h
}

// find is the place in the list of a transaction's lock; -1, if it has none.
func (d *day) find(txn uint64) int {
	return slices.IndexFunc(d.locks, func(p plain) bool { return p.h.Txn == txn })
}

// some: is there a lock, and a key, of which that holds?
func (d *day) some(holds func(p plain, key string) bool) bool {
	return slices.ContainsFunc(d.locks, func(p plain) bool {
		return slices.ContainsFunc(someKeys, func(k string) bool { return holds(p, k) })
	})
}

// may is what the chapter has May answer.
func (d *day) may(h api.Held) api.Errno {
	asked := listed(h)
	switch {
	case h.Txn == 0:
		return api.ErrArg
	case d.find(h.Txn) >= 0:
		return api.ErrTwice
	case d.some(func(p plain, k string) bool {
		return p.writes[k] && (asked.reads[k] || asked.writes[k]) || p.reads[k] && asked.writes[k]
	}):
		return api.ErrLocked
	}
	return api.OK
}

// put puts some lock.
func (d *day) put() {
	h := d.held()
	want := d.may(h)
	if e := d.x.May(h); e != want {
		d.t.Fatalf("P15.1: %v: May of %v: %v; want %v", d.x.All(), h, e, want)
	}
	if e := d.x.Put(h); e != want {
		d.t.Fatalf("P15.1: %v: Put of %v: %v; want %v", d.x.All(), h, e, want)
	}
	if want == api.OK {
		d.locks = append(d.locks, listed(h))
		slices.SortFunc(d.locks, func(a, b plain) int { return cmp.Compare(a.h.Txn, b.h.Txn) })
	}
}

// drop drops some transaction's lock.
func (d *day) drop() {
	txn := uint64(d.r.IntN(9))
	at := d.find(txn)
	h, is := d.x.Drop(txn)
	if is != (at >= 0) || is && !same(h, d.locks[at].h) || !is && !same(h, api.Held{}) {
		d.t.Fatalf("P15.1: Drop(%d): %v, %v", txn, h, is)
	}
	if is {
		d.locks = slices.Delete(d.locks, at, at+1)
	}
}

// look asks of some key, and some span, and of all locks.
func (d *day) look() {
	key, s := d.key(), d.span()
	free := !d.some(func(p plain, k string) bool { return k == string(key) && p.writes[k] })
	if is := d.x.Free(key); is != free {
		d.t.Fatalf("P15.2: %v: Free(%q): %v", d.x.All(), key, is)
	}
	clear := !d.some(func(p plain, k string) bool { return within(s, k) && p.writes[k] })
	if is := d.x.Clear(s); is != clear {
		d.t.Fatalf("P15.2: %v: Clear of %q to %q: %v", d.x.All(), s.From, s.To, is)
	}
	touches := d.some(func(p plain, k string) bool { return within(s, k) && (p.writes[k] || p.reads[k]) })
	if is := d.x.Touches(s); is != touches {
		d.t.Fatalf("P15.2: %v: Touches of %q to %q: %v", d.x.All(), s.From, s.To, is)
	}
	var all []api.Held
	for _, p := range d.locks {
		all = append(all, p.h)
	}
	holds(d.t, d.x, all...)
}

// Whatever locks come and go: as the chapter's words have it, key by key.
func TestLikeAPlainList(t *testing.T) {
	for seed := range 60 {
		d := &day{t: t, r: rand.New(rand.NewPCG(uint64(seed), 15)), x: lock.New()}
		for range 600 {
			if d.r.IntN(3) == 0 {
				d.drop()
			} else {
				d.put()
			}
			d.look()
			if t.Failed() {
				return
			}
		}
	}
}

// What follows: those who only read do not disturb each other, and nobody who reads is kept from it.
func TestReadersDoNotDisturb(t *testing.T) {
	d := &day{t: t, r: rand.New(rand.NewPCG(1, 15)), x: lock.New()}
	for txn := range uint64(200) {
		h := d.held()
		h.Txn, h.Writes = txn+1, nil
		if e := d.x.Put(h); e != api.OK {
			t.Fatalf("P15: %v only reads, behind others that do: %v", h, e)
		}
	}
	for _, key := range someKeys {
		if !d.x.Free([]byte(key)) {
			t.Errorf("P15.2: %q is not free, though all only read", key)
		}
	}
	if !d.x.Clear(api.Span{}) || !d.x.Touches(api.Span{}) {
		t.Error("P15.2: all only read, but Clear, or Touches, tells otherwise")
	}
}

// R2: what is done again is answered again, and hangs on no other table.
func TestTwoTables(t *testing.T) {
	a := &day{t: t, r: rand.New(rand.NewPCG(2, 15)), x: lock.New()}
	b := &day{t: t, r: rand.New(rand.NewPCG(2, 15)), x: lock.New()}
	c := &day{t: t, r: rand.New(rand.NewPCG(3, 15)), x: lock.New()}
	for range 300 {
		a.put()
		c.put()
		b.put()
		c.drop()
		if !slices.EqualFunc(a.x.All(), b.x.All(), same) {
			t.Fatalf("R2: %v and %v", a.x.All(), b.x.All())
		}
		a.drop()
		b.drop()
	}
}
