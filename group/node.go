package group

import (
	"errors"
	"strconv"

	"armoire/api"
	"armoire/disk"
	"armoire/fault"
	"armoire/raft"
	"armoire/vault"
	"armoire/wire"
)

// node is a disk, and what stands on it while the node is up.
type node struct {
	disk *disk.Disk
	life *life // nil: the node is down
}

// life is what a node has while it is up: a fall leaves nothing of it but what is on the disk.
type life struct {
	vault  *vault.Vault
	raft   *raft.Node
	runner *runner
}

// begin lets a node be up, with what its disk has kept; if that is refused, it stays down.
func (g *Group) begin(id int) error {
	n := g.nodes[id]
	n.disk.Start()
	v, err := vault.Open(n.disk)
	if err != nil {
		return placed(id, err)
	}
	kept := v.Log()
	r, e := raft.New(id, len(g.nodes), kept)
	if e != api.OK {
		return placed(id, fault.New(e, "raft"))
	}
	x, err := runnerOf(g.machine(), kept.Snap)
	if err != nil {
		return placed(id, err)
	}
	n.life = &life{vault: v, raft: r, runner: x}
	return nil
}

// did: something was done with the raft node of a node that is up: all that comes of it comes now. A node that cannot go on is down.
func (g *Group) did(id int) api.Errno {
	n := g.nodes[id]
	e := refusal(g.goOn(id, n.life))
	if e != api.OK {
		n.life = nil
	}
	return e
}

// goOn keeps what is to be kept, and only behind that sends and does anything: nobody may know what a fall may still take.
func (g *Group) goOn(id int, l *life) error {
	kept := l.raft.Log()
	if err := l.vault.Put(kept); err != nil {
		return placed(id, err)
	}
	g.msgs = append(g.msgs, l.raft.Take()...)
	for _, e := range l.raft.Known(g.all.done + 1) {
		g.note(e)
	}
	return g.catchUp(id, l, kept.Snap)
}

// catchUp lets a node's machine do all that its raft node knows committed. Where that begins behind a snapshot that the leader sent, another machine goes on from there.
func (g *Group) catchUp(id int, l *life, s api.Snap) error {
	if s.Index > l.runner.done {
		x, err := runnerOf(g.machine(), s)
		if err != nil {
			return placed(id, err)
		}
		l.runner = x
	}
	for _, e := range l.raft.Known(l.runner.done + 1) {
		l.runner.do(e)
	}
	return nil
}

// note lets the group's machine do the next entry.
func (g *Group) note(e api.Entry) {
	if c, e := wire.TakeCall(e.Data); e == api.OK { // all but a leader's mark, which has no Data
		g.calls = append(g.calls, c)
	}
	g.all.do(e)
}

// placed is an error with its node's place.
func placed(id int, err error) error { return fault.Wrap(err, "node "+strconv.Itoa(id)) }

// refusal is what a call tells of an error of its node's: whatever was refused there, the node is down.
func refusal(err error) api.Errno {
	var code api.Errno
	if errors.As(err, &code) {
		return api.ErrDown
	}
	return api.OK
}
