package pages_test

import (
	"bytes"
	"iter"
	"math/rand/v2"
	"slices"
	"testing"

	"armoire/api"
	"armoire/pages"
)

// plain is a plain list of pairs, held in order.
type plain []api.Pair

// within: is a key in a span?
func within(s api.Span, key []byte) bool {
	return bytes.Compare(s.From, key) <= 0 && (len(s.To) == 0 || bytes.Compare(key, s.To) < 0)
}

func (l *plain) put(p api.Pair) {
	l.drop(p.Key)
	*l = append(*l, p)
	slices.SortFunc(*l, func(a, b api.Pair) int { return bytes.Compare(a.Key, b.Key) })
}

func (l *plain) drop(key []byte) bool {
	n := len(*l)
	*l = slices.DeleteFunc(slices.Clone(*l), func(p api.Pair) bool { return bytes.Equal(p.Key, key) })
	return len(*l) < n
}

func (l *plain) get(key []byte) (api.Pair, bool) {
	for _, p := range *l {
		if bytes.Equal(p.Key, key) {
			return p, true
		}
	}
	return api.Pair{}, false
}

func (l *plain) scan(s api.Span, back bool) []api.Pair {
	var out []api.Pair
	for _, p := range *l {
		if within(s, p.Key) {
			out = append(out, p)
		}
	}
	if back {
		slices.Reverse(out)
	}
	return out
}

func (l *plain) take(s api.Span) []api.Pair {
	out := l.scan(s, false)
	*l = slices.DeleteFunc(slices.Clone(*l), func(p api.Pair) bool { return within(s, p.Key) })
	return out
}

// both: a map, and the plain list that it has to be.
type both struct {
	m *pages.Map
	l plain
}

// asked: a scan, and what it has to tell whenever it is gone through.
type asked struct {
	it   iter.Seq[api.Pair]
	want []api.Pair
}

// day: maps that go on side by side, and scans that were asked for on the way.
type day struct {
	t     *testing.T
	r     *rand.Rand
	most  int // of the numbers that keys are made of
	maps  []both
	scans []asked
}

// key: one of few, some of which begin with others.
func (d *day) key() []byte {
	n := d.r.IntN(d.most)
	key := []byte{byte(n)}
	switch {
	case n%3 == 1:
		key = append(key, 0)
	case n%3 == 2:
		key = append(key, 0xff, byte(n))
	}
	return key
}

func (d *day) span() api.Span {
	s := api.Span{From: d.key(), To: d.key()}
	switch d.r.IntN(8) {
	case 0:
		s.From = nil
	case 1:
		s.To = nil
	}
	return s
}

func same(a, b []api.Pair) bool { return slices.EqualFunc(a, b, equal) }

// look holds all that a map tells against its list.
func (d *day) look(b both) {
	d.t.Helper()
	right(d.t, b.m)
	s, back := d.span(), d.r.IntN(2) == 0
	if got, want := slices.Collect(b.m.Scan(s, back)), b.l.scan(s, back); !same(got, want) {
		d.t.Fatalf("from %x below %x, back %v: %q; want %q", s.From, s.To, back, keys(got), keys(want))
	}
	if got := all(b.m); !same(got, b.l) || b.m.Len() != len(b.l) {
		d.t.Fatalf("%d are there: %q; want %q", b.m.Len(), keys(got), keys(b.l))
	}
	key := d.key()
	p, is := b.m.Get(key)
	if q, has := b.l.get(key); is != has || !equal(p, q) {
		d.t.Fatalf("Get(%x): %+v, %v; want %+v, %v", key, p, is, q, has)
	}
}

// step does one thing to one map and its list.
func (d *day) step(i, put int) {
	b := &d.maps[d.r.IntN(len(d.maps))]
	switch n := d.r.IntN(100); {
	case n < put:
		p := api.Pair{Key: d.key(), Value: []byte{byte(i), byte(i >> 8)}, Version: i}
		if e := b.m.Put(p); e != api.OK {
			d.t.Fatalf("Put(%x): %v", p.Key, e)
		}
		b.l.put(p)
	case n < 94:
		key := d.key()
		if got, want := b.m.Drop(key), b.l.drop(key); got != want {
			d.t.Fatalf("Drop(%x): %v; want %v", key, got, want)
		}
	case n < 96:
		s := d.span()
		if got, want := b.m.Take(s), b.l.take(s); !same(got, want) {
			d.t.Fatalf("Take from %x below %x: %q; want %q", s.From, s.To, keys(got), keys(want))
		}
	case n < 98:
		d.maps[d.r.IntN(len(d.maps))] = both{b.m.Fork(), slices.Clone(b.l)}
	default:
		s, back := d.span(), d.r.IntN(2) == 0
		d.scans[d.r.IntN(len(d.scans))] = asked{b.m.Scan(s, back), b.l.scan(s, back)}
	}
	d.look(*b)
}

// A map is what a plain list, held in order, would be, with its forks and scans.
func TestLikeAPlainList(t *testing.T) {
	for seed := range 40 {
		d := &day{t: t, r: rand.New(rand.NewPCG(uint64(seed), 4)), most: 20 + 6*seed, scans: make([]asked, 6)}
		for i := range d.scans {
			d.scans[i].it = pages.New().Scan(api.Span{}, i%2 == 0)
		}
		d.maps = []both{{m: pages.New()}, {m: pages.New()}, {m: pages.New()}}
		for i := range 1200 {
			d.step(i, 30+40*(i/300%2)) // now more go than come, now more come
			for _, s := range d.scans {
				if i%40 == 0 && !same(slices.Collect(s.it), s.want) {
					t.Fatalf("a scan that was asked for earlier: %q; want %q", keys(slices.Collect(s.it)), keys(s.want))
				}
			}
		}
		for _, b := range d.maps {
			d.look(b)
		}
	}
}

// R2: what is done again is answered again.
func TestDoneTwiceIsTheSame(t *testing.T) {
	var told [2][][]int
	for i := range told {
		r, m := rand.New(rand.NewPCG(7, 7)), pages.New()
		for range 500 {
			m.Put(pair(letter(r.IntN(120))))
			m.Drop([]byte(letter(r.IntN(120))))
			told[i] = append(told[i], m.Sizes())
		}
	}
	if !slices.EqualFunc(told[0], told[1], slices.Equal) {
		t.Error("R2: the same calls make other pages")
	}
}
