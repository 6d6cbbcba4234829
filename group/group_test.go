package group_test

import (
	"bytes"
	"math"
	"testing"

	"armoire/api"
	"armoire/fault"
	"armoire/group"
)

const longest = api.MaxRecord - 100 // bytes of an entry's Data

// P11.1: what no group is made of.
func TestNewRefuses(t *testing.T) {
	asked := 0
	counting := func() api.Machine {
		asked++
		return &tape{}
	}
	for _, x := range []struct {
		n, sectors int
		machine    func() api.Machine
	}{
		{0, 9, counting}, {-1, 9, counting}, {api.MaxNodes + 1, 9, counting}, {math.MinInt, 9, counting}, {math.MaxInt, 9, counting},
		{1, 0, counting}, {1, -1, counting}, {1, api.MaxSectors + 1, counting}, {1, math.MinInt, counting}, {1, math.MaxInt, counting},
		{1, 9, nil}, {0, 0, nil},
	} {
		g, err := group.New(x.n, x.sectors, x.machine)
		if g != nil || fault.Code(err) != api.ErrArg {
			t.Errorf("P11.1: New(%d, %d, nil: %v): %v", x.n, x.sectors, x.machine == nil, err)
		}
	}
	if asked > 0 {
		t.Errorf("P11.1: %d machines are made for groups that are not", asked)
	}
}

// P11.1, P11.3: all nodes of a new group are up, and nothing was done yet.
func TestNew(t *testing.T) {
	for n := 1; n <= api.MaxNodes; n++ {
		for _, sectors := range []int{1, 2, 40, api.MaxSectors} {
			g := made(t, n, sectors, machine)
			for id := range n {
				if s, up := g.Status(id); !up || s != (api.Status{First: 1}) {
					t.Errorf("P11.1: the new node %d: %+v, %v", id, s, up)
				}
				if fault.Code(g.Start(id)) != api.ErrState {
					t.Errorf("P11.2: Start of the new node %d: %v", id, g.Start(id))
				}
				is(t, g, id, "")
			}
			if g.Messages() != 0 || g.Leader() != -1 || g.Done() != 0 || len(g.Committed()) != 0 || all(g) != "" {
				t.Errorf("P11.3: a new group: %d messages, %d leads, Done %d, %+v, %q", g.Messages(), g.Leader(), g.Done(), g.Committed(), all(g))
			}
			untold(t, g, 0, 0)
			untold(t, g, 1, 1)
			noNode(t, g, -1)
			noNode(t, g, n)
			noNode(t, g, math.MinInt)
			noNode(t, g, math.MaxInt)
		}
	}
}

// noNode: what is answered of a node that is none.
func noNode(t *testing.T, g *group.Group, id int) {
	t.Helper()
	for i, e := range []api.Errno{g.Call(id, ask(1, 1)), g.Tick(id), g.Crash(id, nil), fault.Code(g.Start(id)), g.Shrink(id)} {
		if e != api.ErrArg {
			t.Errorf("P11.2: the call %d of the node %d: %v", i, id, e)
		}
	}
	s, up := g.Status(id)
	b, has := g.State(id)
	if up || has || s != (api.Status{}) || b != nil {
		t.Errorf("P11.3: the node %d, which is none: %+v, %v; %q, %v", id, s, up, b, has)
	}
}

// P11.3: the group's machine is what machine told first, itself; each node has another one.
func TestMachine(t *testing.T) {
	var made []*tape
	g, err := group.New(3, roomy, func() api.Machine {
		made = append(made, &tape{})
		return made[len(made)-1]
	})
	if err != nil || len(made) < 4 || g.Machine() != api.Machine(made[0]) {
		t.Fatalf("P11.3: %d machines, %v", len(made), err)
	}
	who := leads(t, g, 3)
	says(t, g, who, ask(1, 1))
	rounds(g, 3, 8)
	if g.Machine() != api.Machine(made[0]) || string(made[0].done) != "1-1." {
		t.Errorf("P11.3: the group's machine has done %q", made[0].done)
	}
	for id := range 3 {
		g.Crash(id, nil)
		g.Start(id)
	}
	if g.Machine() != api.Machine(made[0]) || string(made[0].done) != "1-1." {
		t.Errorf("P11.3: the group's machine has done %q, behind falls of all", made[0].done)
	}
}

// P11.1: what Call is refused for, and what counts first.
func TestCallRefuses(t *testing.T) {
	g, who := led(t, 3, roomy)
	follows, fell := (who+1)%3, (who+2)%3
	g.Crash(fell, nil)
	long := make([]byte, longest-4) // wire.Call has five bytes ahead of it
	for i, x := range []struct {
		node int
		c    api.Call
		want api.Errno
	}{
		{3, ask(1, 1), api.ErrArg}, {-1, ask(1, 1), api.ErrArg}, {3, api.Call{Data: long}, api.ErrArg},
		{who, api.Call{}, api.ErrArg}, {who, ask(0, 1), api.ErrArg}, {who, ask(1, 0), api.ErrArg}, {who, api.Call{Client: 1, Data: long}, api.ErrArg},
		{follows, ask(0, 1), api.ErrArg}, {fell, ask(1, 0), api.ErrArg}, {fell, api.Call{Client: 1, Data: long}, api.ErrArg},
		{who, api.Call{Client: 1, Seq: 1, Data: long}, api.ErrLong}, {follows, api.Call{Client: 1, Seq: 1, Data: long}, api.ErrLong}, {fell, api.Call{Client: 1, Seq: 1, Data: long}, api.ErrLong},
		{fell, ask(1, 1), api.ErrDown}, {follows, ask(1, 1), api.ErrLeader},
		{fell, api.Call{Client: 1, Seq: 1, Data: long[1:]}, api.ErrDown}, {follows, api.Call{Client: 1, Seq: 1, Data: long[1:]}, api.ErrLeader},
	} {
		was, n := g.Kept(who), g.Messages()
		if e := g.Call(x.node, x.c); e != x.want {
			t.Errorf("P11.1: the row %d: %v; want %v", i, e, x.want)
		}
		if !sameLog(was, g.Kept(who)) || g.Messages() != n {
			t.Errorf("P11.1: the row %d changes something", i)
		}
	}
	rounds(g, 3, 20)
	if len(g.Committed()) > 0 {
		t.Errorf("P11.4: what was refused is done: %+v", g.Committed())
	}
	for range 10 {
		g.Tick(follows)
		g.Tick(follows)
	}
	if s, _ := g.Status(follows); s.Role != api.Candidate || g.Call(follows, ask(1, 1)) != api.ErrLeader {
		t.Errorf("P11.1: Call of a candidate: %+v", s)
	}
}

// P11.1: the longest call, in bytes of wire.Call, whatever its numbers are.
func TestLongCall(t *testing.T) {
	g, who := led(t, 1, 20000)
	for i, x := range []struct {
		c    api.Call
		room int // for Data
	}{
		{api.Call{Client: 1, Seq: 1}, longest - 1 - 1 - 3},
		{api.Call{Client: 128, Seq: 1}, longest - 2 - 1 - 3},
		{api.Call{Client: math.MaxUint64, Seq: math.MaxUint64}, longest - 10 - 10 - 3},
	} {
		x.c.Data = bytes.Repeat([]byte{'x'}, x.room+1)
		if e := g.Call(who, x.c); e != api.ErrLong {
			t.Errorf("P11.1: the row %d, one byte too long: %v", i, e)
		}
		x.c.Data = x.c.Data[1:]
		says(t, g, who, x.c)
		if a, is := g.Answer(x.c.Client, x.c.Seq); !is || len(a) != x.room+2 {
			t.Errorf("P11.1: the row %d: the answer has %d bytes", i, len(a))
		}
		was := g.Kept(who)
		if e := g.Shrink(who); e != api.ErrLong || !sameLog(was, g.Kept(who)) {
			t.Errorf("P11.2: Shrink of a state that is too long for a snapshot: %v", e)
		}
	}
}

// P11.1: OK: the call stands in its log, and is on its way; then it is done, once, and answered.
func TestCall(t *testing.T) {
	for n := 1; n <= api.MaxNodes; n++ {
		g, who := led(t, n, roomy)
		rounds(g, n, 8)
		was, _ := g.Status(who)
		says(t, g, who, ask(7, 1))
		s, _ := g.Status(who)
		if s.Last != was.Last+1 || g.Messages() < n-1 {
			t.Errorf("P11.1: of %d nodes: %+v, behind %+v; %d messages", n, s, was, g.Messages())
		}
		if n > 1 {
			untold(t, g, 7, 1)
			is(t, g, who, "")
		}
		rounds(g, n, 8)
		told(t, g, 7, 1, "1:7-1")
		says(t, g, who, ask(7, 1))
		says(t, g, who, api.Call{Client: 7, Seq: 1, Data: []byte("other")})
		says(t, g, who, ask(9, 5))
		says(t, g, who, api.Call{Client: 9, Seq: 6})
		says(t, g, who, ask(9, 5))
		rounds(g, n, 8)
		told(t, g, 7, 1, "1:7-1")
		told(t, g, 9, 6, "3:")
		untold(t, g, 9, 5) // a client's last call alone is told
		untold(t, g, 7, 0)
		untold(t, g, 8, 1)
		if all(g) != "7-1.9-5.." {
			t.Errorf("P11.4: done: %q", all(g))
		}
		for id := range n {
			is(t, g, id, "7-1.9-5..")
		}
		want := []api.Call{ask(7, 1), ask(7, 1), {Client: 7, Seq: 1, Data: []byte("other")}, ask(9, 5), {Client: 9, Seq: 6}, ask(9, 5)}
		if l := g.Committed(); !equalCalls(l, want) || g.Done() != uint64(len(want)+1) {
			t.Errorf("P11.3: Committed: %+v; Done %d", l, g.Done())
		}
	}
}

func equalCalls(a, b []api.Call) bool {
	same := len(a) == len(b)
	for i := range min(len(a), len(b)) {
		same = same && sameCall(a[i], b[i])
	}
	return same
}

// P11.3: of two that take themselves to lead it is the one of the greater term, wherever it stands; of one that is down nothing is told.
func TestLeader(t *testing.T) {
	for _, first := range []int{0, 1, 2} {
		g := made(t, 3, roomy, machine)
		for range 20 {
			g.Tick(first)
		}
		drain(g)
		if g.Leader() != first {
			t.Fatalf("P11.3: %d leads; want %d", g.Leader(), first)
		}
		second := 2 - first
		if first == 1 {
			second = 0
		}
		for range 20 { // nobody tells the first one of it
			g.Tick(second)
		}
		hearAllBut(g, first)
		was, _ := g.Status(first)
		s, _ := g.Status(second)
		if was.Role != api.Leader || s.Role != api.Leader || s.Term <= was.Term || g.Leader() != second {
			t.Errorf("P11.3: %d leads; %+v, %+v", g.Leader(), was, s)
		}
		g.Crash(second, nil)
		if g.Leader() != first {
			t.Errorf("P11.3: %d leads, where the newer one is down", g.Leader())
		}
		g.Crash(first, nil)
		if g.Leader() != -1 {
			t.Errorf("P11.3: %d leads, where both are down", g.Leader())
		}
	}
}

// hearAllBut delivers all, but what goes to one node, or comes from it: that is lost.
func hearAllBut(g *group.Group, id int) {
	for g.Messages() > 0 {
		if m := g.Under()[0]; m.To == id || m.From == id {
			g.Lose(0)
		} else {
			g.Deliver(0)
		}
	}
}

// P11.1 to P11.3: nothing is asked of nil, nor of a group that New did not make.
func TestNil(t *testing.T) {
	for _, g := range []*group.Group{nil, {}} {
		for _, i := range []int{0, -1, 7} {
			for k, e := range []api.Errno{g.Call(i, ask(1, 1)), g.Call(i, api.Call{}), g.Tick(i), g.Deliver(i), g.Lose(i), g.Double(i), g.Crash(i, nil), fault.Code(g.Start(i)), g.Shrink(i)} {
				if e != api.ErrNil {
					t.Errorf("P11.3: the call %d of nil: %v", k, e)
				}
			}
			s, up := g.Status(i)
			b, has := g.State(i)
			if up || has || s != (api.Status{}) || b != nil {
				t.Errorf("P11.3: of nil: %+v, %v; %q, %v", s, up, b, has)
			}
		}
		untold(t, g, 1, 1)
		if g.Messages() != 0 || g.Leader() != -1 || g.Committed() != nil || g.Machine() != nil || g.Done() != 0 {
			t.Error("P11.3: of nil")
		}
	}
}
