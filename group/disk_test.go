package group_test

import (
	"errors"
	"slices"
	"strings"
	"testing"

	"armoire/api"
	"armoire/fault"
	"armoire/group"
	"armoire/wal"
)

// P11.3: a node whose disk has no room for what is to be kept is down; nothing comes of what it was told.
func TestNoRoom(t *testing.T) {
	for sectors := 1; sectors < 20; sectors++ { // no room for a first vote, but for a new node
		g := made(t, 1, sectors, machine)
		for range 9 {
			if e := g.Tick(0); e != api.OK {
				t.Errorf("P11.2: %d sectors: Tick: %v", sectors, e)
			}
		}
		if e := g.Tick(0); e != api.ErrDown {
			t.Errorf("P11.3: %d sectors: Tick, where there is no room: %v", sectors, e)
		}
		down(t, g, 0)
		if g.Leader() != -1 || g.Messages() != 0 || g.Done() != 0 {
			t.Errorf("P11.3: %d sectors: %d leads, %d messages, Done %d", sectors, g.Leader(), g.Messages(), g.Done())
		}
		if err := g.Start(0); err != nil {
			t.Errorf("P11.2: %d sectors: Start: %v", sectors, err)
		}
		if s, up := g.Status(0); !up || s != (api.Status{First: 1}) {
			t.Errorf("P11.2: %d sectors: anew: %+v, %v", sectors, s, up)
		}
	}
}

// filled: a group, calls that were answered, and one that was refused, since it took down who leads: the disks are full.
func filled(t *testing.T, n int) (g *group.Group, who int, answered uint64) {
	g, who = led(t, n, 400)
	rounds(g, n, 8)
	for seq := uint64(1); seq < 1000; seq++ {
		n := g.Messages()
		switch e := g.Call(who, ask(1, seq)); e {
		case api.ErrDown:
			if g.Messages() != n {
				t.Errorf("P11.3: what is not kept is sent: %+v", g.Under())
			}
			return g, who, seq - 1
		case api.OK:
			drain(g)
			told(t, g, 1, seq, string(answer(int(seq), string(ask(1, seq).Data))))
		default:
			t.Fatalf("P11.1: Call: %v", e)
		}
	}
	t.Fatal("P11.3: no disk is ever full")
	return nil, 0, 0
}

// P11.1, P11.3, P11.4: a call for which the disk has no room is not done; all that was answered stays.
func TestFull(t *testing.T) {
	for _, n := range []int{1, 3} {
		g, who, answered := filled(t, n)
		if answered < 3 {
			t.Fatalf("there is room for %d calls alone", answered)
		}
		down(t, g, who)
		untold(t, g, 1, answered+1)
		state := all(g)
		if uint64(strings.Count(state, ".")) != answered {
			t.Errorf("P11.4: %d are answered; done are %q", answered, state)
		}
		if err := g.Start(who); err != nil {
			t.Errorf("P11.2: Start: %v", err)
		}
		if s, _ := g.Status(who); s.Last != g.Done() {
			t.Errorf("P11.2: %+v is kept; %d are known", s, g.Done())
		}
		rounds(g, n, 60)
		told(t, g, 1, answered, string(answer(int(answered), string(ask(1, answered).Data))))
		if !strings.HasPrefix(all(g), state) || strings.Count(all(g), ".") > int(answered)+1 {
			t.Errorf("P11.4: %q, behind %q", all(g), state)
		}
	}
}

// P11.2: who shrinks its log in time has room again.
func TestShrinkMakesRoom(t *testing.T) {
	g, _ := led(t, 1, 1500)
	for seq := range uint64(80) {
		says(t, g, 0, api.Call{Client: 1, Seq: seq + 1, Data: []byte{'x'}})
		if seq%5 == 4 && g.Shrink(0) != api.OK {
			t.Fatalf("P11.2: Shrink behind %d calls", seq+1)
		}
	}
	told(t, g, 1, 80, "80:x")
}

// P11.3, P11.4: whichever Write or Flush of a call is hit: its node is down, with its disk; nothing is sent or done of it, unless it was kept.
func TestHit(t *testing.T) {
	for _, n := range []int{1, 3} {
		for k := 1; ; k++ {
			g, who := led(t, n, roomy)
			says(t, g, who, ask(1, 1))
			rounds(g, n, 8)
			state, sent := all(g), g.Messages()
			g.Disk(who).Arm(k)
			e := g.Call(who, ask(2, 1))
			if e == api.OK {
				if k < 3 {
					t.Errorf("a call needs %d Writes and Flushes", k-1)
				}
				break
			}
			if e != api.ErrDown || !g.Disk(who).Down() || all(g) != state || g.Messages() != sent {
				t.Errorf("P11.3: the %d-th is hit: %v; %q; %d messages", k, e, all(g), g.Messages()-sent)
			}
			down(t, g, who)
			g.Disk(who).Crash([]int{64, k, 64, 64})
			if err := g.Start(who); err != nil {
				t.Errorf("P11.2: Start: %v", err)
			}
			leads(t, g, n)
			rounds(g, n, 40)
			told(t, g, 1, 1, "1:1-1")
			if all(g) != state && all(g) != state+"2-1." {
				t.Errorf("P11.4: %q", all(g))
			}
		}
	}
}

// P11.3: a disk may refuse at a tick, at a message, and when a log is shortened, too.
func TestHitElsewhere(t *testing.T) {
	g := made(t, 3, roomy, machine)
	for range 9 {
		g.Tick(0)
	}
	g.Disk(0).Arm(1)
	if e := g.Tick(0); e != api.ErrDown || g.Messages() != 0 {
		t.Errorf("P11.3: Tick: %v; %d messages", e, g.Messages())
	}
	down(t, g, 0)
	g.Start(0)
	for range 10 {
		g.Tick(0)
	}
	g.Disk(1).Arm(2)
	if e := g.Deliver(0); e != api.OK || g.Messages() != 1 {
		t.Errorf("P11.2: Deliver: %v; %+v", e, g.Under())
	}
	down(t, g, 1)
	g.Deliver(0)
	g.Deliver(0)
	drain(g)
	if g.Leader() != 0 || g.Done() != 1 {
		t.Fatalf("P11.3: %d leads, Done %d", g.Leader(), g.Done())
	}
	g.Disk(0).Arm(2)
	if e := g.Shrink(0); e != api.ErrDown {
		t.Errorf("P11.3: Shrink: %v", e)
	}
	down(t, g, 0)
	if err := g.Start(0); err != nil {
		t.Errorf("P11.2: Start: %v", err)
	}
}

// P11.2: what Open answers, if that refuses: with the node's place; it stays down.
func TestStartRefuses(t *testing.T) {
	g, who := led(t, 3, roomy)
	bad := (who + 1) % 3
	g.Crash(bad, nil)
	d := g.Disk(bad)
	d.Start()
	l, e := wal.Open(d)
	if e != api.OK || l.Append([]byte("strange")) != api.OK || l.Sync() != api.OK {
		t.Fatalf("P6.2: %v", e)
	}
	for range 2 {
		err := g.Start(bad)
		var f *fault.Fault
		var code api.Errno
		if !errors.As(err, &f) || !errors.As(err, &code) || code != api.ErrBad {
			t.Fatalf("P11.2: Start, where the vault is none: %v", err)
		}
		where := fault.Where(err)
		if node := "node " + string(rune('0'+bad)); !slices.Contains(where, node) || !slices.Contains(where, "vault") {
			t.Errorf("Ways: %v says %q; want the place %q", err, where, node)
		}
		down(t, g, bad)
	}
	says(t, g, who, ask(1, 1))
	rounds(g, 3, 8)
	told(t, g, 1, 1, "1:1-1")
}
