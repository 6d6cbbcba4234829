package vault

import (
	"bytes"
	"math/rand/v2"
	"slices"
	"testing"

	"armoire/api"
	"armoire/disk"
	"armoire/fault"
	"armoire/wal"
)

// drawn is any right log of few entries, with numbers small or great.
func drawn(r *rand.Rand) api.Log {
	num := func() uint64 { return r.Uint64() >> r.IntN(64) }
	l := api.Log{Hard: api.Hard{Term: num(), Vote: r.IntN(6)}}
	if r.IntN(2) == 0 && l.Hard.Term > 0 {
		l.Snap = api.Snap{Index: 1 + r.Uint64N(20)*r.Uint64N(2), Term: 1 + r.Uint64N(l.Hard.Term), Data: make([]byte, r.IntN(9))}
		if r.IntN(5) == 0 {
			l.Snap.Index = farthest - r.Uint64N(4)
		}
	}
	term := max(l.Snap.Term, 1)
	for i := range r.Uint64N(6) {
		if term > l.Hard.Term {
			break
		}
		e := api.Entry{Index: l.Snap.Index + i + 1, Term: term, Data: bytes.Repeat([]byte{byte(r.IntN(2))}, r.IntN(4)*r.IntN(60))}
		l.Entries = append(l.Entries, e)
		if r.IntN(2) == 0 {
			term = l.Hard.Term - r.Uint64N(1+l.Hard.Term-term)
		}
	}
	return l
}

// near is l with fewer entries, or another one at the end, or a snapshot of some of them.
func near(r *rand.Rand, l api.Log) api.Log {
	n := r.IntN(len(l.Entries) + 1)
	if r.IntN(2) == 0 && n > 0 {
		l.Snap = api.Snap{Index: l.Entries[n-1].Index, Term: l.Entries[n-1].Term, Data: []byte("near")}
		if l.Snap.Index <= farthest {
			l.Entries = l.Entries[n:]
			return l
		}
		l.Snap.Index, l.Entries = farthest, nil
		return l
	}
	l.Entries = append(l.Entries[:n:n], api.Entry{Index: l.Snap.Index + uint64(n) + 1, Term: l.Hard.Term, Data: []byte("near")})
	if l.Hard.Term == 0 {
		l.Entries = nil
	}
	return l
}

// P7.2: a difference leads from the one log to the other; it is no longer than is counted for it, and so are its records.
func TestDifference(t *testing.T) {
	r := rand.New(rand.NewPCG(7, 7))
	for range 20000 {
		was := drawn(r)
		is := drawn(r)
		if r.IntN(2) == 0 {
			is = near(r, was)
		}
		if !Right(was) || !Right(is) {
			t.Fatal("the test is wrong")
		}
		b := difference(was, is)
		if l, ok := changed(was, b); !ok || !same(l, is) {
			t.Fatalf("P7.2: %v, %v: %v; want %v", ok, was, l, is)
		}
		if len(b) > longest(is) {
			t.Fatalf("P7.3: %d bytes; %d are counted", len(b), longest(is))
		}
	}
}

// P7.1: a difference that ends early leads to no log, or to one with fewer entries; one with more behind it leads to none, unless that is an entry.
func TestDifferenceEnds(t *testing.T) {
	r := rand.New(rand.NewPCG(7, 8))
	for range 2000 {
		was, is := drawn(r), drawn(r)
		if len(is.Entries) == 0 {
			continue
		}
		b := difference(was, is)
		ends := map[int]int{}
		for n := range is.Entries {
			short := is
			short.Entries = is.Entries[:n]
			ends[len(difference(api.Log{}, short))-len(difference(api.Log{}, is))+len(b)] = n
		}
		for n := range b {
			l, ok := changed(was, b[:n])
			if e, is := ends[n]; ok && (!is || len(l.Entries) != e) {
				t.Fatalf("P7.1: %d of %d bytes lead to a log", n, len(b))
			}
			if !ok && !same(l, api.Log{}) {
				t.Fatal("R4: a log beside false")
			}
		}
		for _, more := range [][]byte{{0}, {1}, {255}, {1, 5}} {
			if _, ok := changed(was, append(b[:len(b):len(b)], more...)); ok {
				t.Fatalf("P7.1: with %v behind it it leads to a log", more)
			}
		}
	}
}

// wrong is differences from start that lead to no log, or to one that is not right.
func wrong() map[string][]byte {
	return map[string][]byte{
		"a vote for no node":          {3, 6, 0, 2},
		"a term below":                {2, 0, 0, 2},
		"neither a snapshot nor none": {3, 0, 2, 0, 0, 0, 0},
		"three stay":                  {3, 0, 0, 3},
		"a snapshot without a term":   {3, 0, 1, 1, 0, 0, 0},
		"a snapshot too far":          append([]byte{3, 0, 1}, 129, 128, 128, 128, 128, 128, 128, 128, 64, 1, 0, 0),
		"a snapshot at the end":       append([]byte{3, 0, 1}, 255, 255, 255, 255, 255, 255, 255, 255, 255, 1, 1, 0, 0, 1, 0),
		"a term that falls":           {3, 0, 0, 2, 1, 0},
		"a term 0":                    {3, 0, 0, 0, 0, 0},
		"one that stays, too far on":  {3, 0, 1, 3, 3, 0, 1},
		"a number's other form":       {0x83, 0, 0, 0, 2},
		"an entry that ends early":    {3, 0, 0, 2, 3, 2, 'a'},
	}
}

// start is the log that the differences of wrong, and others, are from.
func start() api.Log {
	return api.Log{Hard: api.Hard{Term: 3}, Entries: []api.Entry{{Term: 1, Index: 1}, {Term: 3, Index: 2}}}
}

// onDisk is a disk with these records on it.
func onDisk(t *testing.T, lists ...[][]byte) *disk.Disk {
	t.Helper()
	d, _ := disk.New(400)
	w, _ := wal.Open(d)
	for _, b := range slices.Concat(lists...) {
		if e := w.Append(b); e != api.OK {
			t.Fatal(e)
		}
	}
	return d
}

// P7.1: a difference that leads to a log that is not right, or keeps more entries than there are, leads to none: what has it is no vault's.
func TestDifferenceWrong(t *testing.T) {
	ahead := records(change, difference(api.Log{}, start()))
	if v, err := Open(onDisk(t, ahead)); err != nil || !same(v.Log(), start()) {
		t.Fatalf("P7.1: Open: %v", err)
	}
	for name, b := range wrong() {
		if l, ok := changed(start(), b); ok || !same(l, api.Log{}) {
			t.Errorf("P7.1: %s: %v, %v", name, l, ok)
		}
		for _, kind := range []int{change, whole} {
			if v, err := Open(onDisk(t, ahead, records(kind, b))); v != nil || !fault.Is(err, api.ErrBad) {
				t.Errorf("P7.1: Open: %s: %v", name, err)
			}
		}
	}
	if _, ok := changed(start(), nil); ok {
		t.Error("P7.1: nothing leads to a log")
	}
	for name, b := range map[string][]byte{
		"none stays":      {3, 0, 0, 0},
		"one stays":       {3, 0, 0, 1},
		"all stay":        {4, 5, 0, 2},
		"one behind all":  {3, 0, 0, 2, 3, 2, 'a', 'b'},
		"a snapshot":      {3, 0, 1, 1, 1, 0, 1},
		"one at the end":  {3, 0, 1, 2, 3, 1, 'a', 0},
		"one far behind":  {3, 0, 1, 9, 3, 0, 0, 3, 0},
		"the farthest":    append([]byte{3, 0, 1}, 128, 128, 128, 128, 128, 128, 128, 128, 64, 1, 0, 0),
		"no index, bytes": {3, 0, 1, 0, 0, 1, 'a', 2},
	} {
		if l, ok := changed(start(), b); !ok || !Right(l) {
			t.Errorf("P7.1: %s: %v, %v", name, l, ok)
		}
	}
}

// P7.1: a record without the vault's mark, or of a kind that is none, is no vault's, whatever else it has.
func TestPartOf(t *testing.T) {
	b := records(change, difference(api.Log{}, start()))[0]
	if p, ok := partOf(b); !ok || p.kind != change || p.left != 0 {
		t.Fatalf("P7.1: %v, %v", p, ok)
	}
	for at := range len(mark) + 1 {
		turned := slices.Clone(b)
		turned[at] ^= 1
		if p, ok := partOf(turned); ok || p.body != nil {
			t.Errorf("P7.1: the mark %q counts", turned[:len(mark)+1])
		}
	}
	other := slices.Clone(b)
	other[len(mark)+1] = whole + 1
	if _, ok := partOf(other); ok {
		t.Error("P7.1: a kind that is none counts")
	}
}

// P7.2: a whole copy leads from nothing to its log: nothing of what is ahead of it stays.
func TestWholeCopy(t *testing.T) {
	ahead := start()
	ahead.Snap.Data = []byte("ahead")
	b := difference(api.Log{}, api.Log{Hard: api.Hard{Term: 1}})
	v, err := Open(onDisk(t, records(change, difference(api.Log{}, ahead)), records(whole, b)))
	if err != nil || !same(v.Log(), api.Log{Hard: api.Hard{Term: 1}}) {
		t.Fatalf("P7.2: Open: %v, %v", v.Log(), err)
	}
}

// P7.3: records have what they are made of, in order, none is too long, and they count no more than is counted for them.
func TestRecords(t *testing.T) {
	for _, n := range []int{1, 2, 39, 40, 41, piece - 1, piece, piece + 1, 2 * piece, 2*piece + 1, 5*piece - 1} {
		b := make([]byte, n)
		for i := range b {
			b[i] = byte(i ^ i>>8)
		}
		var r reading
		all := 0
		list := records(whole, b)
		for i, record := range list {
			if len(record) > api.MaxRecord || !r.take(record) || r.left != len(list)-1-i || r.kind != whole {
				t.Fatalf("P7.1: %d bytes, the record %d of %d: %d bytes, %d, %d", n, i, len(list), len(record), r.kind, r.left)
			}
			all += count(len(record))
		}
		if !bytes.Equal(r.body, b) || len(list) != (n+piece-1)/piece || all > counts(n) {
			t.Errorf("P7.1: %d bytes: %d records, %d bytes", n, len(list), len(r.body))
		}
	}
}
