package raft_test

import (
	"bytes"
	"slices"
	"testing"

	"armoire/api"
	"armoire/raft"
)

// roomy is bytes with room behind their end, full of bytes 7.
func roomy(b []byte) []byte { return append(slices.Clone(b), bytes.Repeat([]byte{7}, 50)...)[:len(b)] }

// roomyEntries is entries with room behind all of their ends.
func roomyEntries(list []api.Entry) []api.Entry {
	list = append(slices.Clone(list), api.Entry{Term: 7}, api.Entry{Term: 7})[:len(list)]
	for i := range list {
		list[i].Data = roomy(list[i].Data)
	}
	return list
}

func roomyLog(l api.Log) api.Log {
	l.Snap.Data, l.Entries = roomy(l.Snap.Data), roomyEntries(l.Entries)
	return l
}

// untouched: is the room behind still full of sevens?
func untouched(b []byte) bool {
	return !slices.ContainsFunc(b[len(b):cap(b)], func(x byte) bool { return x != 7 && x != 0 })
}

func untouchedEntries(list []api.Entry) bool {
	for _, e := range list {
		if !untouched(e.Data) {
			return false
		}
	}
	return list[:len(list)+1][len(list)].Term == 7
}

// spoil writes into bytes, and the room behind them.
func spoil(b []byte) { copy(b[:cap(b)], bytes.Repeat([]byte{'#'}, cap(b))) }

func spoilEntries(list []api.Entry) {
	for i := range list {
		spoil(list[i].Data)
	}
	all := list[:cap(list)]
	for i := range all {
		all[i] = api.Entry{Term: 99}
	}
}

func spoilLog(l api.Log) {
	spoil(l.Snap.Data)
	spoilEntries(l.Entries)
}

func spoilMsgs(list []api.Msg) {
	for i := range list {
		spoil(list[i].Data)
		spoilEntries(list[i].Entries)
	}
	all := list[:cap(list)]
	for i := range all {
		all[i] = api.Msg{Kind: 99}
	}
}

// R3: what is handed in is neither changed nor kept, with the room behind its ends.
func TestArgumentsStay(t *testing.T) {
	want := snapped(5, 3, 1, 2, 2, 5)
	l := roomyLog(want)
	r := made(t, 1, 3, l)
	if !same(l, want) || !untouchedEntries(l.Entries) || !untouched(l.Snap.Data) {
		t.Error("R3: New changes what is handed in")
	}
	spoilLog(l)
	has(t, r, want)
	for _, from := range []uint64{6, 4, 2} {
		news := []api.Entry{{Term: 5, Index: from + 1, Data: []byte("hat")}, {Term: 6, Index: from + 2, Data: []byte("coat")}}
		if from == 2 {
			news = append([]api.Entry{{Term: 1, Index: 3}, {Term: 2, Index: 4, Data: []byte("x")}}, api.Entry{Term: 6, Index: 5, Data: []byte("y")})
		}
		m := api.Msg{Kind: api.MsgAppend, From: 0, To: 1, Term: 6, Index: from, LogTerm: 1, Entries: roomyEntries(news), Commit: 3}
		if from > 3 {
			m.LogTerm, _ = termOf(r.Log(), from)
		}
		step(t, r, m)
		if !sameEntries(m.Entries, news) || !untouchedEntries(m.Entries) {
			t.Error("R3: Step changes what is handed in")
		}
		was := r.Log()
		if got, _ := termOf(was, news[len(news)-1].Index); got != 6 {
			t.Fatalf("P8.2: %+v", was)
		}
		spoilEntries(m.Entries)
		has(t, r, was)
	}
	m := api.Msg{Kind: api.MsgSnap, From: 0, To: 1, Term: 6, Index: 9, LogTerm: 6, Data: roomy(state(9))}
	step(t, r, m)
	if string(m.Data) != "s9" || !untouched(m.Data) {
		t.Error("R3: Step changes what is handed in")
	}
	spoil(m.Data)
	has(t, r, api.Log{Hard: api.Hard{Term: 6}, Snap: api.Snap{Index: 9, Term: 6, Data: state(9)}})
}

// termOf is the term of a log's entry.
func termOf(l api.Log, index uint64) (uint64, bool) {
	for _, e := range l.Entries {
		if e.Index == index {
			return e.Term, true
		}
	}
	return 0, false
}

// R3: likewise of Propose and Compact.
func TestDataStays(t *testing.T) {
	r := made(t, 0, 1, api.Log{})
	ticks(r, 10)
	data := roomy([]byte("hat"))
	r.Propose(data)
	r.Propose(data[:2])
	if string(data) != "hat" || !untouched(data) {
		t.Error("R3: Propose changes what is handed in")
	}
	spoil(data)
	if l := r.Known(2); string(l[0].Data) != "hat" || string(l[1].Data) != "ha" {
		t.Errorf("R3: Propose keeps what is handed in: %+v", l)
	}
	data = roomy([]byte("coat"))
	r.Compact(2, data)
	if string(data) != "coat" || !untouched(data) {
		t.Error("R3: Compact changes what is handed in")
	}
	spoil(data)
	if l := r.Log(); string(l.Snap.Data) != "coat" {
		t.Errorf("R3: Compact keeps what is handed in: %+v", l)
	}
}

// R3: what is handed out is new memory, each list its own.
func TestAnswersAreNew(t *testing.T) {
	r := elected(t, 0, 3, snapped(5, 3, 1, 2, 2, 5))
	r.Propose([]byte("hat"))
	agree(t, r, 1, 7)
	r.Compact(5, state(5))
	step(t, r, api.Msg{Kind: api.MsgAppendReply, From: 2, To: 0, Term: 6, Index: 2, Refused: true})
	want, known := r.Log(), r.Known(0)
	for range 2 {
		ticks(r, 3)
		list := r.Take()
		kinds := 0
		for i, m := range list {
			kinds |= 1 << m.Kind
			for j := range m.Entries {
				list[i].Entries[j].Data = append(m.Entries[j].Data, "####"...)[:len(m.Entries[j].Data)]
			}
		}
		for i := range list {
			var rest []api.Msg
			for _, m := range list[i+1:] {
				m.Data, m.Entries = bytes.Clone(m.Data), cloned(m.Entries)
				rest = append(rest, m)
			}
			spoil(list[i].Data)
			spoilEntries(list[i].Entries)
			if !slices.EqualFunc(list[i+1:], rest, sameMsg) {
				t.Error("R3: two messages share memory")
			}
		}
		spoilMsgs(list)
		if kinds != 1<<api.MsgAppend|1<<api.MsgSnap {
			t.Errorf("P8.3: kinds that are sent: %b", kinds)
		}
		has(t, r, want)
		l := r.Log()
		_ = append(l.Entries[:1], api.Entry{Term: 99})
		for i := range l.Entries {
			_ = append(l.Entries[i].Data, "####"...)
		}
		spoilLog(l)
		has(t, r, want)
		k := r.Known(0)
		_ = append(k, api.Entry{Term: 99})
		spoilEntries(k)
		if again := r.Known(0); !sameEntries(again, known) {
			t.Errorf("R3: Known is written into: %+v", again)
		}
		has(t, r, want)
	}
	r.Propose([]byte("coat"))
	spoilMsgs(r.Take())
	if _, e := r.Propose([]byte("scarf")); e != api.OK || string(r.Log().Entries[4].Data) != "scarf" || string(r.Log().Entries[3].Data) != "coat" {
		t.Errorf("R3: what was sent is written into: %+v", r.Log())
	}
}

func cloned(list []api.Entry) []api.Entry {
	list = slices.Clone(list)
	for i := range list {
		list[i].Data = bytes.Clone(list[i].Data)
	}
	return list
}

// R3: messages that were not taken yet stay as they were sent, whatever comes of the log.
func TestMessagesStay(t *testing.T) {
	r := elected(t, 0, 3, logOf(2, 1, 2))
	r.Propose([]byte("hat"))
	step(t, r, api.Msg{Kind: api.MsgAppend, From: 1, To: 0, Term: 4, Index: 2, LogTerm: 2, Entries: row(2, 4, 4, 4), Commit: 5})
	r.Compact(4, state(4))
	want := []api.Msg{
		{Kind: api.MsgAppend, From: 0, To: 1, Term: 3, Index: 3, LogTerm: 3, Entries: []api.Entry{{Term: 3, Index: 4, Data: []byte("hat")}}},
		{Kind: api.MsgAppend, From: 0, To: 2, Term: 3, Index: 3, LogTerm: 3, Entries: []api.Entry{{Term: 3, Index: 4, Data: []byte("hat")}}},
		{Kind: api.MsgAppendReply, From: 0, To: 1, Term: 4, Index: 5},
	}
	sends(t, r, want...)
}

// R3: what was taken stays as it was, whatever is sent behind it.
func TestTakenStays(t *testing.T) {
	r := elected(t, 0, 3, logOf(2, 1, 2))
	r.Propose([]byte("hat"))
	list := r.Take()
	was := slices.Clone(list)
	for range 3 {
		r.Propose([]byte("coat"))
		r.Take()
	}
	if !slices.EqualFunc(list, was, sameMsg) {
		t.Errorf("R3: what was taken is written into: %+v; it was %+v", list, was)
	}
}

// R3: nil and no bytes, nil and no entries are the same.
func TestNilIsEmpty(t *testing.T) {
	a, b := made(t, 0, 2, api.Log{}), made(t, 0, 2, api.Log{Snap: api.Snap{Data: []byte{}}, Entries: []api.Entry{}})
	for i, r := range []*raft.Node{a, b} {
		none := [][]byte{nil, {}}[i]
		step(t, r, api.Msg{Kind: api.MsgAppend, From: 1, To: 0, Term: 1, Entries: [][]api.Entry{nil, {}}[i], Data: none})
		step(t, r, api.Msg{Kind: api.MsgAppend, From: 1, To: 0, Term: 1, Entries: []api.Entry{{Term: 1, Index: 1, Data: none}}, Commit: 1})
		if e := r.Compact(1, none); e != api.OK {
			t.Errorf("P8.3: Compact: %v", e)
		}
	}
	has(t, a, b.Log())
	if !slices.EqualFunc(a.Take(), b.Take(), sameMsg) {
		t.Error("R3: nil and nothing are answered in two ways")
	}
}
