package vault_test

import (
	"bytes"
	"errors"
	"math/rand/v2"
	"slices"
	"testing"

	"armoire/api"
	"armoire/disk"
	"armoire/fault"
	"armoire/vault"
	"armoire/wal"
)

// P7.1: a disk that nobody has written to, however small.
func TestOpenNew(t *testing.T) {
	for _, n := range []int{1, 2, 3, 8, 75, 1000, api.MaxSectors} {
		d := made(t, n)
		for range 2 {
			has(t, opened(t, d), api.Log{})
		}
		fallen(t, d)
		has(t, opened(t, d), api.Log{})
	}
}

// P7.1: what Open answers where wal.Open refuses.
func TestOpenRefused(t *testing.T) {
	v, err := vault.Open(nil)
	answers(t, "Open(nil)", err, api.ErrNil)
	d := made(t, 200)
	put(t, opened(t, d), good())
	d.Crash(nil)
	w, err := vault.Open(d)
	answers(t, "Open of one that is down", err, api.ErrDown)
	if v != nil || w != nil {
		t.Error("R4: a vault beside an error")
	}
}

// records: a disk with a log of these records on it, the first n of which are cut off.
func records(t *testing.T, n uint64, list ...[]byte) *disk.Disk {
	t.Helper()
	d := made(t, 300+len(bytes.Join(list, nil))/16)
	w, e := wal.Open(d)
	if e != api.OK {
		t.Fatal(e)
	}
	for _, b := range list {
		if e := w.Append(b); e != api.OK {
			t.Fatal(e)
		}
	}
	if e := w.Cut(n); e != api.OK {
		t.Fatal(e)
	}
	return d
}

// laid: the records of a vault that was told these logs.
func laid(t *testing.T, logs ...api.Log) [][]byte {
	t.Helper()
	d := made(t, api.MaxSectors)
	v := opened(t, d)
	for _, l := range logs {
		put(t, v, l)
	}
	w, e := wal.Open(d)
	if e != api.OK {
		t.Fatal(e)
	}
	return w.Records()
}

// strange: Open is to answer ErrBad, and no vault.
func strange(t *testing.T, what string, d *disk.Disk) {
	t.Helper()
	v, err := vault.Open(d)
	answers(t, "Open: "+what, err, api.ErrBad)
	if v != nil {
		t.Errorf("R4: Open: %s: a vault beside an error", what)
	}
}

// P7.1: a log that no vault has laid.
func TestOpenBad(t *testing.T) {
	for _, s := range []string{"", "a", "vault", "\x05vault", "\x05vault\x01\x00", "\x00", "\x00\x00\x00", "\x01\x01\x00", "\x02\x00\x00\x00", string(make([]byte, 1000)), string(bytes.Repeat([]byte{255}, 100))} {
		strange(t, s, records(t, 0, []byte(s)))
	}
	r := rand.New(rand.NewPCG(7, 1))
	for range 200 {
		b := make([]byte, r.IntN(60))
		for i := range b {
			b[i] = byte(r.IntN(256))
		}
		strange(t, string(b), records(t, 0, b))
	}
	mine := laid(t, good())
	strange(t, "a strange record behind", records(t, 0, append(slices.Clone(mine), []byte("hat"))...))
	strange(t, "a strange record ahead", records(t, 0, append([][]byte{[]byte("hat")}, mine...)...))
	strange(t, "all records gone", records(t, 1, mine...))
	strange(t, "the zero log gone", records(t, 1, laid(t, row(1, 5), row(2, 6, 7))...))
	strange(t, "a strange log, all gone", records(t, 1, []byte("hat")))
}

// P7.1: where a vault's record is another one by a bit, or ends early, or later, it is no vault's, or one whose log is right; and no call panics.
func TestOpenTurned(t *testing.T) {
	mine := laid(t, good(), more(good(), 5, 0, 300), snapped(more(good(), 5, 0, 300), 9, 20))
	open := func(list [][]byte) bool {
		v, err := vault.Open(records(t, 0, list...))
		if err != nil {
			answers(t, "Open", err, api.ErrBad)
			return false
		}
		if !vault.Right(v.Log()) {
			t.Errorf("P7.1: Open: a log that is not right: %s", short(v.Log()))
		}
		return true
	}
	if !open(mine) {
		t.Fatal("P7.1: Open refuses what it laid")
	}
	for i, b := range mine {
		for at := range b {
			list := slices.Clone(mine)
			list[i] = slices.Clone(b)
			list[i][at] ^= 1 << (at % 8)
			open(list)
			list[i] = b[:at]
			if open(list) {
				t.Errorf("P7.1: the record %d ends at its byte %d, and counts", i, at)
			}
		}
		list := slices.Clone(mine)
		list[i] = append(slices.Clone(b), 0)
		if open(list) {
			t.Errorf("P7.1: the record %d has a byte more, and counts", i)
		}
	}
}

// great is a log whose difference from others needs several records.
func great(term uint64) api.Log {
	return row(term, 30000, 20000, 0, api.MaxRecord-100, 9)
}

// P7.1: the records of one log stand together, in order: also where without some of them the others would be a log.
func TestOpenMixed(t *testing.T) {
	for _, l := range []api.Log{great(3), row(1, make([]int, 33000)...)} {
		mine := laid(t, l)
		if len(mine) != 3 {
			t.Fatalf("%d records", len(mine))
		}
		has(t, opened(t, records(t, 0, mine...)), l)
		has(t, opened(t, records(t, 0, mine[:2]...)), api.Log{})
		has(t, opened(t, records(t, 0, mine[0], mine[0], mine[1], mine[2])), l)
		for _, order := range [][]int{{1, 2}, {2}, {0, 2}, {0, 1, 1, 2}, {0, 1, 2, 2}, {0, 1, 2, 1, 2}, {0, 2, 1}, {0, 1, 2, 0, 2}} {
			var list [][]byte
			for _, i := range order {
				list = append(list, mine[i])
			}
			strange(t, "another order", records(t, 0, list...))
		}
	}
}

// renewed: the records of a vault that has laid a whole copy of its log, and nothing behind it; that log.
func renewed(t *testing.T) ([][]byte, api.Log) {
	t.Helper()
	d := made(t, 75)
	v := opened(t, d)
	for term := uint64(1); ; term++ {
		f := d.Fork()
		put(t, v, row(term, 20))
		if w, _ := wal.Open(d); w.First() == 0 {
			continue
		}
		// Its last Put laid a copy, and what was new: all but that is what a copy behind the one ahead of it has.
		w, _ := wal.Open(d)
		return w.Records()[:1], opened(t, f).Log()
	}
}

// P7.1: where the first records are gone, what is there begins with a whole copy.
func TestOpenCut(t *testing.T) {
	mine, l := renewed(t)
	next := laid(t, row(3, 4))[0]
	has(t, opened(t, records(t, 1, next, mine[0])), l)
	has(t, opened(t, records(t, 1, next, mine[0], next)), row(3, 4))
	has(t, opened(t, records(t, 0, next, mine[0])), l)
	strange(t, "a change ahead of the copy", records(t, 1, next, next, mine[0]))
	strange(t, "no copy", records(t, 1, next, next))
}

// P7.1, What follows: put one behind the other, the last one is there, whatever became of the one ahead.
func TestPut(t *testing.T) {
	a := row(3, 10, 0, 500, 1)
	other := row(3, 10, 0, 500, 2)
	list := []api.Log{
		{Hard: api.Hard{Term: 1}}, {Hard: api.Hard{Term: 1, Vote: 2}}, {Hard: api.Hard{Term: 1, Vote: 1}}, {},
		a, other, a, more(a, 7), more(a, 8), a, more(a, 1, 2, 3, 4, 5, 6),
		snapped(a, 1, 30), snapped(a, 2, 30), snapped(snapped(a, 2, 30), 4, 0), more(snapped(a, 4, 90), 3), a,
		snapped(more(a, 7, 8), 5, 10), good(), good(), row(9), snapped(good(), 9, 1), snapped(good(), 10, 40), {},
		{Snap: api.Snap{Data: []byte("x")}}, {Hard: api.Hard{Term: 1}, Snap: api.Snap{Data: []byte("x")}}, row(1, 1),
		great(4), great(5), more(great(5), 1), snapped(great(5), 3, api.MaxRecord-100), {},
		{Hard: api.Hard{Term: 1<<64 - 1, Vote: 5}, Snap: api.Snap{Index: 1 << 62, Term: 1<<64 - 1}, Entries: []api.Entry{{Term: 1<<64 - 1, Index: 1<<62 + 1, Data: []byte("x")}}},
		{Hard: api.Hard{Term: 1<<64 - 1, Vote: 5}, Snap: api.Snap{Index: 1<<62 - 1, Term: 1}, Entries: []api.Entry{{Term: 1<<64 - 1, Index: 1 << 62, Data: []byte("x")}}},
	}
	d := made(t, 22000)
	v := opened(t, d)
	for i, was := range list {
		for _, l := range list {
			put(t, v, was)
			put(t, v, l)
			if d.Waiting() != 0 {
				t.Fatalf("P7.1: %d writes wait: it is not safe", d.Waiting())
			}
			has(t, opened(t, d), l)
		}
		if i%3 == 0 {
			fallen(t, d)
			v = opened(t, d)
		}
	}
}

// P7.1: an entry that is another one only in its term, or its Data, or stands elsewhere, is another one.
func TestPutNearlySame(t *testing.T) {
	d := made(t, 400)
	v := opened(t, d)
	base := func() api.Log {
		l := row(5, 3, 3, 3)
		l.Entries[0].Term, l.Entries[1].Term, l.Hard.Vote = 1, 2, 1
		return l
	}
	for i, turn := range []func(l *api.Log){
		func(l *api.Log) { l.Hard.Term++ },
		func(l *api.Log) { l.Hard.Vote++ },
		func(l *api.Log) { l.Entries[0].Term++ },
		func(l *api.Log) { l.Entries[2].Term-- },
		func(l *api.Log) { l.Entries[0].Data = []byte("abc") },
		func(l *api.Log) { l.Entries[1].Data = l.Entries[1].Data[:2] },
		func(l *api.Log) { l.Entries[2].Data = nil },
		func(l *api.Log) { l.Entries = l.Entries[:2] },
		func(l *api.Log) { l.Entries[1].Data, l.Entries[2].Data = l.Entries[2].Data, l.Entries[1].Data },
		func(l *api.Log) { l.Snap.Data = []byte("x") },
		func(l *api.Log) { *l = snapped(*l, 1, 0) },
		func(l *api.Log) { *l = snapped(*l, 1, 0); l.Entries = nil },
	} {
		put(t, v, base())
		l := base()
		turn(&l)
		put(t, v, l)
		fallen(t, d)
		v = opened(t, d)
		if has(t, v, l); t.Failed() {
			t.Fatalf("the row %d", i)
		}
	}
	s := snapped(base(), 2, 9)
	for _, turn := range []func(l *api.Log){
		func(l *api.Log) { l.Snap.Term-- },
		func(l *api.Log) { l.Snap.Data = []byte("x") },
		func(l *api.Log) { l.Snap.Index, l.Entries = 1, nil },
		func(l *api.Log) { l.Snap.Index--; l.Entries = slices.Clone(l.Entries); l.Entries[0].Index-- },
	} {
		put(t, v, s)
		l := s
		turn(&l)
		put(t, v, l)
		has(t, opened(t, d), l)
	}
}

// P7.1, P7.2: days without falls, on disks that are renewed again and again.
func TestManyPuts(t *testing.T) {
	for seed := range 30 {
		r := rand.New(rand.NewPCG(uint64(seed), 71))
		d := made(t, 100+r.IntN(3000))
		v := opened(t, d)
		var l api.Log
		for range 600 {
			next := someLog(r, l, 10+r.IntN(500))
			err := v.Put(next)
			if err == nil {
				l = next
			} else if answers(t, "Put", err, api.ErrFull); promised(d, next) {
				t.Fatalf("P7.3: no room on %d sectors for %s", d.Size(), short(next))
			}
			has(t, v, l)
			if r.IntN(20) == 0 {
				v = opened(t, d)
				has(t, v, l)
			}
		}
	}
}

// P7.1: codes of Put; of two the one that is named first counts.
func TestCodes(t *testing.T) {
	wrong := api.Log{Snap: api.Snap{Index: 1}}
	huge := row(1, 30000, 30000, 30000)
	d := made(t, 500)
	v := opened(t, d)
	put(t, v, good())
	answers(t, "a log that is not right", v.Put(wrong), api.ErrForm)
	answers(t, "a log without room", v.Put(huge), api.ErrFull)
	answers(t, "a log as it is", v.Put(good()), api.OK)
	huge.Hard.Term = 0
	answers(t, "one that is neither right nor has room", v.Put(huge), api.ErrForm)
	huge.Hard.Term = 1
	has(t, v, good())
	d.Crash(nil)
	for range 2 {
		answers(t, "not right, down", v.Put(wrong), api.ErrForm)
		answers(t, "no room, down", v.Put(huge), api.ErrDown)
		answers(t, "down", v.Put(row(1)), api.ErrDown)
		answers(t, "as it is, down", v.Put(good()), api.ErrDown)
		d.Start()
	}
	has(t, opened(t, d), good())
}

// P7.2: a nil vault, and one that Open did not make.
func TestNil(t *testing.T) {
	var none *vault.Vault
	for _, v := range []*vault.Vault{none, {}} {
		for _, l := range []api.Log{{}, good(), {Snap: api.Snap{Index: 1}}, row(1, 40000)} {
			answers(t, "Put of a nil vault", v.Put(l), api.ErrNil)
		}
		has(t, v, api.Log{})
	}
}

// P7.1: errors are faults, and say where they came from; their codes are found by errors.Is and errors.As.
func TestFaults(t *testing.T) {
	d := made(t, 100)
	v := opened(t, d)
	_, none := vault.Open(nil)
	_, bad := vault.Open(records(t, 0, []byte("hat")))
	form := v.Put(api.Log{Snap: api.Snap{Index: 1}})
	full := v.Put(row(1, 30000))
	d.Crash(nil)
	down, again := v.Put(row(1)), v.Put(row(1))
	for code, err := range map[api.Errno]error{api.ErrNil: none, api.ErrBad: bad, api.ErrForm: form, api.ErrFull: full, api.ErrDown: down} {
		var e api.Errno
		if !errors.Is(err, code) || !errors.As(err, &e) || e != code || !fault.Is(err, code) {
			t.Errorf("Ways: %v; want %v", err, code)
		}
		if where := fault.Where(err); len(where) == 0 || where[0] != "vault" {
			t.Errorf("Ways: %v: where: %q", err, where)
		}
	}
	answers(t, "Put of one that has answered ErrDown", again, api.ErrDown)
}

// P7.1: what has no room is refused again and again, and takes none.
func TestFullTakesNoRoom(t *testing.T) {
	d := made(t, 300)
	v := opened(t, d)
	put(t, v, row(1, 10, 10))
	for i := range 200 {
		l := row(uint64(2+i), 900, 900, 900, 900, 900)
		answers(t, "without room", v.Put(l), api.ErrFull)
		has(t, v, row(1, 10, 10))
		if i%10 == 0 {
			v = opened(t, d)
			has(t, v, row(1, 10, 10))
		}
	}
	put(t, v, row(1, 10, 11))
}
