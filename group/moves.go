package group

import (
	"slices"

	"armoire/api"
	"armoire/fault"
)

// Tick: time goes on at a node.
func (g *Group) Tick(node int) api.Errno {
	l, e := g.up(node)
	if e != api.OK {
		return e
	}
	l.raft.Tick()
	return g.did(node)
}

// Deliver lets a message arrive. At a node that is down it is lost.
func (g *Group) Deliver(i int) api.Errno {
	m, e := g.take(i)
	if e != api.OK {
		return e
	}
	if l, e := g.up(m.To); e == api.OK {
		l.raft.Step(m)
		g.did(m.To)
	}
	return api.OK
}

// Lose lets a message be lost.
func (g *Group) Lose(i int) api.Errno {
	_, e := g.take(i)
	return e
}

// Double lets another message like one stand behind all.
func (g *Group) Double(i int) api.Errno {
	m, e := g.message(i)
	if e != api.OK {
		return e
	}
	g.msgs = append(g.msgs, m) // that they share memory is of no matter: nobody writes into what a message tells
	return api.OK
}

// Crash lets a node be down, and its disk fall.
func (g *Group) Crash(node int, keep []int) api.Errno {
	if _, e := g.up(node); e != api.OK {
		return e
	}
	n := g.nodes[node]
	n.life = nil
	return n.disk.Crash(keep)
}

// Start lets a node that is down be up, with what its disk has kept.
func (g *Group) Start(node int) error {
	_, e := g.up(node)
	switch e {
	case api.OK:
		return fault.New(api.ErrState, "group")
	case api.ErrDown:
		return fault.Wrap(g.begin(node), "group")
	}
	return fault.New(e, "group")
}

// Shrink puts what a node's machine has come to in the place of its log, as far as that is done.
func (g *Group) Shrink(node int) api.Errno {
	l, e := g.up(node)
	if e != api.OK {
		return e
	}
	s := l.raft.Status()
	if s.Commit < s.First {
		return api.ErrState
	}
	if e := l.raft.Compact(s.Commit, l.runner.once.Save()); e != api.OK {
		return e
	}
	return g.did(node)
}

// message is the one of that place.
func (g *Group) message(i int) (api.Msg, api.Errno) {
	switch {
	case g.none():
		return api.Msg{}, api.ErrNil
	case i < 0 || i >= len(g.msgs):
		return api.Msg{}, api.ErrNone
	}
	return g.msgs[i], api.OK
}

// take is the message of that place, which is under way no more.
func (g *Group) take(i int) (api.Msg, api.Errno) {
	m, e := g.message(i)
	if e == api.OK {
		g.msgs = slices.Delete(g.msgs, i, i+1)
	}
	return m, e
}
