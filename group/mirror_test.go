package group_test

import (
	"bytes"
	"math"
	"math/rand/v2"
	"slices"
	"strconv"
	"strings"
	"testing"

	"armoire/api"
	"armoire/fault"
	"armoire/group"
	"armoire/raft"
	"armoire/wire"
)

// mirror is what the chapter says of a group whose disks always have room, said again without disks and machines: raft nodes, what they have to keep, the messages, and all that was known committed.
type mirror struct {
	nodes []*raft.Node // nil: it is down
	kept  []api.Log
	msgs  []api.Msg
	known []api.Entry
	taken int // snapshots
}

func mirrored(n int) *mirror {
	m := &mirror{nodes: make([]*raft.Node, n), kept: make([]api.Log, n)}
	for id := range n {
		m.start(id)
	}
	return m
}

// why is what a call of a node is refused for.
func (m *mirror) why(id int) api.Errno {
	switch {
	case id < 0 || id >= len(m.nodes):
		return api.ErrArg
	case m.nodes[id] == nil:
		return api.ErrDown
	}
	return api.OK
}

// does does something with a node, and all that comes of it, unless that is refused.
func (m *mirror) does(id int, do func(r *raft.Node) api.Errno) api.Errno {
	if e := m.why(id); e != api.OK {
		return e
	}
	r := m.nodes[id]
	e := do(r)
	m.kept[id] = r.Log()
	m.msgs = append(m.msgs, r.Take()...)
	for _, e := range r.Known(uint64(len(m.known) + 1)) {
		m.known = append(m.known, e)
	}
	return e
}

func (m *mirror) tick(id int) api.Errno {
	return m.does(id, func(r *raft.Node) api.Errno {
		r.Tick()
		return api.OK
	})
}

func (m *mirror) call(id int, c api.Call) api.Errno {
	e := m.why(id)
	if e != api.ErrArg && (c.Client == 0 || c.Seq == 0) {
		return api.ErrArg
	}
	if e != api.OK {
		return e
	}
	return m.does(id, func(r *raft.Node) api.Errno {
		_, e := r.Propose(wire.Call(c))
		return e
	})
}

func (m *mirror) deliver(i int) api.Errno {
	if i < 0 || i >= len(m.msgs) {
		return api.ErrNone
	}
	x := m.msgs[i]
	m.lose(i)
	m.does(x.To, func(r *raft.Node) api.Errno {
		was := r.Status().First
		e := r.Step(x)
		if r.Status().First > was {
			m.taken++
		}
		return e
	})
	return api.OK
}

func (m *mirror) lose(i int) api.Errno {
	if i < 0 || i >= len(m.msgs) {
		return api.ErrNone
	}
	m.msgs = slices.Concat(m.msgs[:i], m.msgs[i+1:])
	return api.OK
}

func (m *mirror) double(i int) api.Errno {
	if i < 0 || i >= len(m.msgs) {
		return api.ErrNone
	}
	m.msgs = append(m.msgs, m.msgs[i])
	return api.OK
}

func (m *mirror) crash(id int) api.Errno {
	e := m.why(id)
	if e == api.OK {
		m.nodes[id] = nil
	}
	return e
}

func (m *mirror) start(id int) api.Errno {
	switch e := m.why(id); e {
	case api.OK:
		return api.ErrState
	case api.ErrDown:
		m.nodes[id], e = raft.New(id, len(m.nodes), m.kept[id])
		return e
	default:
		return e
	}
}

func (m *mirror) shrink(id int) api.Errno {
	return m.does(id, func(r *raft.Node) api.Errno {
		commit := r.Status().Commit
		if commit == r.Log().Snap.Index {
			return api.ErrState
		}
		return r.Compact(commit, []byte("state"))
	})
}

// calls is the calls up to an index.
func (m *mirror) calls(index uint64) []api.Call {
	var list []api.Call
	for _, e := range m.known[:index] {
		if len(e.Data) > 0 {
			c, _ := wire.TakeCall(e.Data)
			list = append(list, c)
		}
	}
	return list
}

// snaps is how many snapshots were taken since it was asked last, that a leader had sent.
func (m *mirror) snaps() int {
	n := m.taken
	m.taken = 0
	return n
}

// leader is who leads in the greatest term.
func (m *mirror) leader() int {
	who, term := -1, uint64(0)
	for id, r := range m.nodes {
		if s := r.Status(); s.Role == api.Leader && s.Term > term {
			who, term = id, s.Term
		}
	}
	return who
}

// look holds a group against its mirror.
func (m *mirror) look(t *testing.T, g *group.Group) {
	t.Helper()
	if g.Messages() != len(m.msgs) || g.Leader() != m.leader() || g.Done() != uint64(len(m.known)) {
		t.Fatalf("P11.3: %d messages, %d leads, Done %d; want %d, %d, %d", g.Messages(), g.Leader(), g.Done(), len(m.msgs), m.leader(), len(m.known))
	}
	for id, r := range m.nodes {
		s, up := g.Status(id)
		if up != (r != nil) || s != r.Status() {
			t.Fatalf("P11.3: Status(%d): %+v, %v; want %+v", id, s, up, r.Status())
		}
		want, _ := ran(m.calls(s.Commit))
		if b, has := g.State(id); has != up || up && string(b) != want {
			t.Fatalf("P11.3: State(%d): %q, %v; want %q", id, b, has, want)
		}
	}
	calls := m.calls(g.Done())
	if !slices.EqualFunc(g.Committed(), calls, sameCall) {
		t.Fatalf("P11.3: Committed: %+v; want %+v", g.Committed(), calls)
	}
	want, last := ran(calls)
	if all(g) != want {
		t.Fatalf("P11.3: the group's machine: %q; want %q", all(g), want)
	}
	for client, c := range last {
		told(t, g, client, c.Seq, string(c.Data))
		untold(t, g, client, c.Seq-1)
		untold(t, g, client, c.Seq+1)
	}
}

func sameCall(a, b api.Call) bool {
	return a.Client == b.Client && a.Seq == b.Seq && bytes.Equal(a.Data, b.Data)
}

// P11.1 to P11.3: whatever moves come, a group is as its mirror.
func TestMirror(t *testing.T) {
	for n := 1; n <= api.MaxNodes; n++ {
		t.Run(strconv.Itoa(n)+" nodes", func(t *testing.T) {
			t.Parallel()
			done, snaps := 0, 0
			for seed := range uint64(25) {
				t.Logf("seed %d", seed)
				r := &mirrorRun{t: t, n: n, d: dice(seed*10 + uint64(n)), g: made(t, n, roomy, machine), m: mirrored(n)}
				for k := range 1200 {
					r.move(k)
				}
				done += strings.Count(all(r.g), ".")
				snaps += r.snaps
			}
			if done < 300 || n > 2 && snaps < 10 { // of two nodes each one has all that is known
				t.Errorf("the moves let the group do too little: %d calls, %d snapshots", done, snaps)
			}
		})
	}
}

// mirrorRun is a group, its mirror, and what is done with both.
type mirrorRun struct {
	t     *testing.T
	n     int
	d     *rand.Rand
	g     *group.Group
	m     *mirror
	seqs  [4]uint64
	snaps int // that were sent, and taken
}

// move is one, whatever it is.
func (r *mirrorRun) move(k int) {
	d, g, m := r.d, r.g, r.m
	id, i := d.IntN(r.n), d.IntN(1+g.Messages()/3)
	if d.IntN(60) == 0 {
		id = []int{-1, r.n, math.MinInt, math.MaxInt}[d.IntN(4)]
		i = []int{-1, g.Messages(), math.MinInt, math.MaxInt}[d.IntN(4)]
	}
	var what string
	var got, want api.Errno
	switch x := d.IntN(200); {
	case x < 55:
		what, got, want = "Tick", g.Tick(id), m.tick(id)
	case x < 150:
		what, got, want = "Deliver", g.Deliver(i), m.deliver(i)
		r.snaps += m.snaps()
	case x < 153:
		what, got, want = "Lose", g.Lose(i), m.lose(i)
	case x < 160:
		what, got, want = "Double", g.Double(i), m.double(i)
	case x < 180:
		client := d.Uint64N(4)
		r.seqs[client] += d.Uint64N(3)
		if who := g.Leader(); who >= 0 && d.IntN(8) > 0 {
			id = who
		}
		c := ask(client, r.seqs[client])
		what, got, want = "Call", g.Call(id, c), m.call(id, c)
	case x < 182:
		what, got, want = "Crash", g.Crash(id, []int{d.IntN(70), 64}), m.crash(id)
	case x < 194:
		what, got, want = "Start", fault.Code(g.Start(id)), m.start(id)
	default:
		what, got, want = "Shrink", g.Shrink(id), m.shrink(id)
	}
	if got != want {
		r.t.Fatalf("P11.2: the move %d, %s of %d or %d: %v; want %v", k, what, id, i, got, want)
	}
	m.look(r.t, g)
}
