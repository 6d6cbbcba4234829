package group_test

import (
	"bytes"
	"math"
	"testing"

	"armoire/api"
	"armoire/fault"
	"armoire/group"
)

// P11.2: places of messages that are none.
func TestNoMessage(t *testing.T) {
	g := made(t, 3, roomy, machine)
	for _, n := range []int{0, 2} {
		if g.Messages() != n {
			t.Fatalf("P11.3: %d messages; want %d", g.Messages(), n)
		}
		for _, i := range []int{-1, n, n + 1, math.MinInt, math.MaxInt} {
			if g.Deliver(i) != api.ErrNone || g.Lose(i) != api.ErrNone || g.Double(i) != api.ErrNone || g.Messages() != n {
				t.Errorf("P11.2: the message %d of %d", i, n)
			}
		}
		for range 10 {
			g.Tick(0)
		}
	}
}

// asking: three nodes, of which the node 0 has asked the others for their votes.
func asking(t *testing.T) *group.Group {
	g := made(t, 3, roomy, machine)
	for range 10 {
		if e := g.Tick(0); e != api.OK {
			t.Fatalf("P11.2: Tick: %v", e)
		}
	}
	under(t, g, [2]int{0, 1}, [2]int{0, 2})
	return g
}

// under: are just these messages under way, from one node to another each?
func under(t *testing.T, g *group.Group, want ...[2]int) {
	t.Helper()
	l := g.Under()
	same := len(l) == len(want) && g.Messages() == len(want)
	for i := range min(len(l), len(want)) {
		same = same && [2]int{l[i].From, l[i].To} == want[i]
	}
	if !same {
		t.Fatalf("P11.2: %+v; want %v", l, want)
	}
}

// P11.2: what is delivered is told, what is lost is not, what is doubled is told twice; the newest stand last.
func TestMessages(t *testing.T) {
	g := asking(t)
	if e := g.Double(0); e != api.OK {
		t.Errorf("P11.2: Double: %v", e)
	}
	under(t, g, [2]int{0, 1}, [2]int{0, 2}, [2]int{0, 1})
	if e := g.Deliver(1); e != api.OK {
		t.Errorf("P11.2: Deliver: %v", e)
	}
	under(t, g, [2]int{0, 1}, [2]int{0, 1}, [2]int{2, 0})
	g.Deliver(1)
	g.Deliver(0)
	under(t, g, [2]int{2, 0}, [2]int{1, 0}, [2]int{1, 0})
	if e := g.Lose(0); e != api.OK || g.Leader() != -1 {
		t.Errorf("P11.2: Lose: %v; %d leads", e, g.Leader())
	}
	under(t, g, [2]int{1, 0}, [2]int{1, 0})
	if s, _ := g.Status(2); s.Vote != 1 || s.Term != 1 {
		t.Errorf("P11.2: the node 2 was asked for its vote: %+v", s)
	}
	g.Lose(0)
	g.Deliver(0)
	under(t, g, [2]int{0, 1}, [2]int{0, 2})
	if g.Leader() != 0 {
		t.Errorf("P11.2: it has a majority, but %d leads", g.Leader())
	}
}

// P11.2: at a node that is down a message is lost; who is down has heard nothing of it when it is up.
func TestDeliverToDown(t *testing.T) {
	g := asking(t)
	g.Crash(1, nil)
	if e := g.Deliver(0); e != api.OK {
		t.Errorf("P11.2: Deliver to a node that is down: %v", e)
	}
	under(t, g, [2]int{0, 2})
	if err := g.Start(1); err != nil {
		t.Errorf("P11.2: Start: %v", err)
	}
	if s, up := g.Status(1); !up || s != (api.Status{First: 1}) {
		t.Errorf("P11.2: a node that was down: %+v, %v", s, up)
	}
	g.Crash(0, nil) // what it has sent goes on
	under(t, g, [2]int{0, 2})
	g.Deliver(0)
	under(t, g, [2]int{2, 0})
}

// P11.2: with a node its disk falls; of what waits on it so much is kept as is said.
func TestCrash(t *testing.T) {
	g, who := led(t, 3, roomy)
	d := g.Disk(who)
	d.Write(roomy-1, bytes.Repeat([]byte{'x'}, api.Sector))
	d.Write(roomy-2, bytes.Repeat([]byte{'y'}, api.Sector))
	if e := g.Crash(who, []int{3}); e != api.OK || !d.Down() || d.Waiting() != 0 {
		t.Errorf("P11.2: Crash: %v; the disk is down: %v", e, d.Down())
	}
	if err := g.Start(who); err != nil || d.Down() {
		t.Errorf("P11.2: Start: %v; the disk is down: %v", err, d.Down())
	}
	x, _ := d.Read(roomy - 1)
	y, _ := d.Read(roomy - 2)
	if !bytes.HasPrefix(x, []byte{'x', 'x', 'x', 0}) || y[0] != 0 {
		t.Errorf("P11.2: what waited is %q and %q now", x, y)
	}
}

// P11.2: what was kept is there when a node begins anew: its term, its vote, its log; who leads, and what is committed, it does not know.
func TestStart(t *testing.T) {
	g, who := led(t, 3, roomy)
	for seq := range uint64(4) {
		says(t, g, who, ask(1, seq+1))
		rounds(g, 3, 8)
	}
	for id := range 3 {
		was, _ := g.Status(id)
		kept := g.Kept(id)
		if e := g.Crash(id, []int{1, 2, 3}); e != api.OK {
			t.Errorf("P11.2: Crash: %v", e)
		}
		down(t, g, id)
		if err := g.Start(id); err != nil {
			t.Errorf("P11.2: Start: %v", err)
		}
		want := api.Status{Term: was.Term, Vote: was.Vote, First: 1, Last: was.Last}
		if s, up := g.Status(id); !up || s != want || !sameLog(kept, g.Kept(id)) {
			t.Errorf("P11.2: the node %d, anew: %+v, %v; want %+v", id, s, up, want)
		}
		is(t, g, id, "") // it cannot tell what of its log is committed
		if err := g.Start(id); fault.Code(err) != api.ErrState {
			t.Errorf("P11.2: Start of a node that is up: %v", err)
		}
	}
	if all(g) != "1-1.1-2.1-3.1-4." || g.Done() < 5 {
		t.Errorf("P11.4: behind falls of all: %q, %d", all(g), g.Done())
	}
	told(t, g, 1, 4, "4:1-4")
	who = leads(t, g, 3)
	rounds(g, 3, 8)
	for id := range 3 {
		is(t, g, id, "1-1.1-2.1-3.1-4.")
	}
	says(t, g, who, ask(1, 4))
	says(t, g, who, ask(1, 5))
	rounds(g, 3, 8)
	told(t, g, 1, 5, "5:1-5")
}

// P11.2: Shrink puts what the machine has come to in the place of the log; a node begins anew with that.
func TestShrink(t *testing.T) {
	for _, n := range []int{1, 3} {
		g := made(t, n, roomy, machine)
		if e := g.Shrink(0); e != api.ErrState {
			t.Errorf("P11.2: Shrink of a new node: %v", e)
		}
		who := leads(t, g, n)
		says(t, g, who, ask(1, 1))
		rounds(g, n, 8)
		was, _ := g.Status(who)
		if e := g.Shrink(who); e != api.OK {
			t.Errorf("P11.2: Shrink: %v", e)
		}
		is(t, g, who, "1-1.")
		if s, _ := g.Status(who); s.First != was.Commit+1 || s.Last != was.Last || s.Commit != was.Commit || s.Role != api.Leader {
			t.Errorf("P11.2: %+v, behind %+v", s, was)
		}
		if e := g.Shrink(who); e != api.ErrState {
			t.Errorf("P11.2: Shrink again: %v", e)
		}
		says(t, g, who, ask(1, 2))
		rounds(g, n, 8)
		g.Crash(who, nil)
		if err := g.Start(who); err != nil {
			t.Errorf("P11.2: Start: %v", err)
		}
		is(t, g, who, "1-1.")
		if s, _ := g.Status(who); s.First != was.Commit+1 || s.Last != was.Last+1 || s.Commit != was.Commit {
			t.Errorf("P11.2: anew: %+v, behind %+v", s, was)
		}
		if e := g.Shrink(who); e != api.ErrState {
			t.Errorf("P11.2: Shrink of a node that knows no more than its snapshot: %v", e)
		}
		leads(t, g, n)
		rounds(g, n, 8)
		is(t, g, who, "1-1.1-2.")
	}
}

// P11.2: a snapshot keeps what each client was answered, so that no call is done twice behind it.
func TestShrunkOnce(t *testing.T) {
	g, who := led(t, 1, roomy)
	says(t, g, who, ask(1, 1))
	says(t, g, who, ask(2, 9))
	g.Shrink(who)
	g.Crash(who, nil)
	g.Start(who)
	leads(t, g, 1)
	for _, c := range []api.Call{ask(2, 9), ask(2, 8), ask(1, 1), ask(1, 2)} {
		says(t, g, who, c)
	}
	is(t, g, who, "1-1.2-9.1-2.")
	told(t, g, 1, 2, "3:1-2")
	told(t, g, 2, 9, "2:2-9")
}

// lagging: three nodes, of which the last one was down while the others did much, and shrank their logs; it is up again.
func lagging(t *testing.T, machine func() api.Machine) (*group.Group, int) {
	g := made(t, 3, roomy, machine)
	who := leads(t, g, 3)
	away := (who + 2) % 3
	says(t, g, who, ask(1, 1))
	rounds(g, 3, 8)
	g.Crash(away, nil)
	for seq := uint64(2); seq < 6; seq++ {
		says(t, g, who, ask(1, seq))
	}
	rounds(g, 3, 8)
	for id := range 3 {
		if e := g.Shrink(id); e != api.OK && id != away {
			t.Fatalf("P11.2: Shrink(%d): %v", id, e)
		}
	}
	says(t, g, who, ask(2, 1))
	rounds(g, 3, 8)
	if err := g.Start(away); err != nil {
		t.Fatalf("P11.2: Start: %v", err)
	}
	return g, away
}

// P11.4, What follows: whoever lacks what others have no more takes their snapshot, goes on from it, and keeps it.
func TestSnapshotTaken(t *testing.T) {
	const want = "1-1.1-2.1-3.1-4.1-5."
	g, away := lagging(t, machine)
	is(t, g, away, "")
	rounds(g, 3, 8)
	is(t, g, away, want+"2-1.")
	g.Crash(away, nil)
	g.Start(away)
	is(t, g, away, want)
	who := leads(t, g, 3)
	says(t, g, who, ask(1, 5))
	says(t, g, who, ask(1, 6))
	rounds(g, 3, 8)
	for id := range 3 {
		is(t, g, id, want+"2-1.1-6.")
	}
}

// A machine that does not load what another one like it has saved is no more what the chapter says of a node's: that node is down, and stays down.
func TestMachineThatLoadsNothing(t *testing.T) {
	g, away := lagging(t, func() api.Machine { return &unloaded{} })
	rounds(g, 3, 8)
	down(t, g, away)
	for range 2 {
		if err := g.Start(away); fault.Code(err) != api.ErrBad {
			t.Errorf("P11.2: Start, where the machine does not load: %v", err)
		}
		down(t, g, away)
	}
	who := leads(t, g, 3)
	says(t, g, who, ask(1, 6))
	rounds(g, 3, 8)
	if _, is := g.Answer(1, 6); !is {
		t.Error("P11.5: the others do not go on")
	}
}

// unloaded is a tape that does not load.
type unloaded struct{ tape }

func (m *unloaded) Load([]byte) bool { return false }

// R1: a group without machines does nothing, but goes on.
func TestNoMachine(t *testing.T) {
	g := made(t, 1, roomy, func() api.Machine { return nil })
	leads(t, g, 1)
	says(t, g, 0, ask(1, 1))
	g.Shrink(0)
	if b, up := g.State(0); b != nil || !up || g.Machine() != nil || len(g.Committed()) != 1 {
		t.Errorf("R1: %q, %v, %+v", b, up, g.Committed())
	}
	untold(t, g, 1, 1)
	g.Crash(0, nil)
	if err := g.Start(0); fault.Code(err) != api.ErrBad {
		t.Errorf("R1: Start: %v", err)
	}
}
