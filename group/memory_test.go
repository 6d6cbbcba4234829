package group_test

import (
	"bytes"
	"slices"
	"testing"

	"armoire/api"
	"armoire/group"
)

// spoil writes over bytes, and over the room behind them.
func spoil(b []byte) {
	b = b[:cap(b)]
	for i := range b {
		b[i] = '#'
	}
}

// R3: what is handed in is not changed, with the room behind its end, and not kept.
func TestArguments(t *testing.T) {
	g, who := led(t, 3, roomy)
	all := []byte("hat and room")
	says(t, g, who, api.Call{Client: 1, Seq: 1, Data: all[:3]})
	if string(all) != "hat and room" {
		t.Errorf("R3: Call turns its Data to %q", all)
	}
	spoil(all)
	rounds(g, 3, 8)
	told(t, g, 1, 1, "1:hat")
	for id := range 3 {
		is(t, g, id, "hat.")
	}
	keep := []int{64, 9, -1, 70, 5}
	g.Crash(who, keep[:2])
	if !slices.Equal(keep, []int{64, 9, -1, 70, 5}) {
		t.Errorf("R3: Crash turns its list to %v", keep)
	}
	g.Start(who)
	rounds(g, 3, 60)
	is(t, g, who, "hat.")
}

// R3: what is handed out is new memory, each time.
func TestAnswersAreNew(t *testing.T) {
	g, who := led(t, 3, roomy)
	says(t, g, who, ask(1, 1))
	says(t, g, who, ask(2, 1))
	rounds(g, 3, 8)
	for range 2 {
		a, _ := g.Answer(1, 1)
		spoil(a)
		told(t, g, 1, 1, "1:1-1")
		b, _ := g.State(who)
		spoil(b)
		is(t, g, who, "1-1.2-1.")
		l := g.Committed()
		if !equalCalls(l, []api.Call{ask(1, 1), ask(2, 1)}) {
			t.Errorf("P11.3: Committed: %+v", l)
		}
		for i := range l {
			spoil(l[i].Data)
			l[i] = api.Call{}
		}
		_ = append(l, api.Call{})
	}
}

// own is a machine that hands out its own memory, and writes into the commands that it is given.
type own struct{ state []byte }

func (m *own) Do(command []byte) []byte {
	m.state = append(m.state, command...)
	spoil(command)
	return m.state
}

func (m *own) Save() []byte { return m.state }

func (m *own) Load(b []byte) bool {
	m.state = bytes.Clone(b)
	return true
}

// R3: a machine's own memory is not handed out, and a command that it is given is its alone.
func TestMachinesMemory(t *testing.T) {
	g := made(t, 3, roomy, func() api.Machine { return &own{} })
	who := leads(t, g, 3)
	says(t, g, who, api.Call{Client: 1, Seq: 1, Data: []byte("ab")})
	rounds(g, 3, 8)
	says(t, g, who, api.Call{Client: 2, Seq: 1, Data: []byte("cd")})
	rounds(g, 3, 8)
	for id := range 3 {
		b, _ := g.State(id)
		spoil(b)
		is(t, g, id, "abcd")
	}
	a, _ := g.Answer(1, 1)
	spoil(a)
	told(t, g, 1, 1, "ab")
	told(t, g, 2, 1, "abcd")
	if string(g.Machine().Save()) != "abcd" || !equalCalls(g.Committed(), []api.Call{{Client: 1, Seq: 1, Data: []byte("ab")}, {Client: 2, Seq: 1, Data: []byte("cd")}}) {
		t.Errorf("R3: the group's machine: %q; %+v", g.Machine().Save(), g.Committed())
	}
	if e := g.Shrink(who); e != api.OK {
		t.Errorf("P11.2: Shrink: %v", e)
	}
	g.Crash(who, nil)
	g.Start(who)
	is(t, g, who, "abcd")
}

// R2: what a group answers hangs on what was done with it alone.
func TestTwoGroups(t *testing.T) {
	storms := func() []*storm {
		return []*storm{stormOver(t, 3, 1500, dice(77)), stormOver(t, 3, 1500, dice(77)), stormOver(t, 3, 1500, dice(78))}
	}
	for k, list := 0, storms(); k < 600; k++ {
		for _, s := range list {
			s.move()
		}
		if a, b := list[0].g, list[1].g; !sameGroups(a, b, 3) {
			t.Fatalf("R2: two groups to which the same was done are not the same, behind %d moves", k+1)
		}
	}
}

// sameGroups: do two groups answer the same?
func sameGroups(a, b *group.Group, n int) bool {
	same := a.Messages() == b.Messages() && a.Leader() == b.Leader() && a.Done() == b.Done() && equalCalls(a.Committed(), b.Committed()) && all(a) == all(b)
	for id := range n {
		s, up := a.Status(id)
		r, is := b.Status(id)
		x, _ := a.State(id)
		y, _ := b.State(id)
		same = same && s == r && up == is && bytes.Equal(x, y)
	}
	return same
}
