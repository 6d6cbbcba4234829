package raft_test

import (
	"bytes"
	"math/rand/v2"
	"slices"
	"strconv"
	"testing"

	"armoire/api"
	"armoire/raft"
	"armoire/vault"
)

// made: a new node out of a log.
func made(t testing.TB, id, n int, l api.Log) *raft.Node {
	t.Helper()
	r, e := raft.New(id, n, l)
	if r == nil || e != api.OK {
		t.Fatalf("P8.1: New(%d, %d): %v", id, n, e)
	}
	return r
}

// crew is the nodes of a group, what they keep, and the messages that are under way; all that they do is watched.
type crew struct {
	t     testing.TB
	nodes []*raft.Node
	kept  []api.Log
	msgs  []api.Msg
	cut   []bool // nobody hears of these, and they hear of nobody
	told  int    // how many entries were proposed
	watch *watch
}

// crewOf: a group whose nodes begin with these logs.
func crewOf(t testing.TB, logs ...api.Log) *crew {
	t.Helper()
	c := &crew{t: t, kept: slices.Clone(logs), cut: make([]bool, len(logs)), watch: watching(t, len(logs))}
	for id, l := range logs {
		c.nodes = append(c.nodes, made(t, id, len(logs), l))
		for _, e := range l.Entries {
			c.watch.proposed[string(e.Data)] = true
		}
		c.watch.anew(id)
		c.watch.look(c.nodes, c.kept, id)
	}
	return c
}

// did: something was done with a node: what it has to keep is kept, and what it has to send is sent.
func (c *crew) did(id int) {
	c.kept[id] = c.nodes[id].Log()
	for _, m := range c.nodes[id].Take() {
		c.watch.sent(m, id)
		if !c.cut[id] && !c.cut[m.To] {
			c.msgs = append(c.msgs, m)
		}
	}
	c.watch.look(c.nodes, c.kept, id)
}

// tick: time goes on at a node.
func (c *crew) tick(id int) {
	c.nodes[id].Tick()
	c.did(id)
}

// deliver: the i-th message arrives.
func (c *crew) deliver(i int) {
	m := c.msgs[i]
	c.msgs = slices.Delete(c.msgs, i, i+1)
	if c.cut[m.To] {
		return
	}
	if e := c.nodes[m.To].Step(m); e != api.OK {
		c.t.Fatalf("P8.2: Step(%+v): %v", m, e)
	}
	c.did(m.To)
}

// anew: a node begins with what was kept.
func (c *crew) anew(id int) {
	c.nodes[id] = made(c.t, id, len(c.nodes), c.kept[id])
	c.watch.anew(id)
	c.watch.look(c.nodes, c.kept, id)
}

// propose lets who leads have one more entry, and tells its index.
func (c *crew) propose(id int) uint64 {
	c.told++
	data := "e" + strconv.Itoa(c.told)
	c.watch.proposed[data] = true
	index, e := c.nodes[id].Propose([]byte(data))
	if e != api.OK || index != c.nodes[id].Status().Last {
		c.t.Fatalf("P8.3: Propose: %d, %v", index, e)
	}
	c.did(id)
	return index
}

// compact shortens a node's log up to an index.
func (c *crew) compact(id int, index uint64) {
	if e := c.nodes[id].Compact(index, state(index)); e != api.OK {
		c.t.Fatalf("P8.3: Compact(%d): %v; %+v", index, e, c.nodes[id].Status())
	}
	c.did(id)
}

// round is one of calm rounds.
func (c *crew) round() {
	for id := range c.nodes {
		if !c.cut[id] {
			c.tick(id)
		}
	}
	c.drain()
}

// drain delivers all, and all that comes of it.
func (c *crew) drain() {
	for n := 0; len(c.msgs) > 0; n++ {
		if n == 20000 {
			c.t.Fatal("P8.5: the messages come to no end")
		}
		c.deliver(0)
	}
}

func (c *crew) rounds(n int) {
	for range n {
		c.round()
	}
}

// leader is who leads in the greatest term, of those who are not cut off; -1: nobody.
func (c *crew) leader() int {
	who, term := -1, uint64(0)
	for id, r := range c.nodes {
		if s := r.Status(); !c.cut[id] && s.Role == api.Leader && s.Term > term {
			who, term = id, s.Term
		}
	}
	return who
}

// led: rounds go by until somebody leads.
func (c *crew) led() int {
	for range 200 {
		if who := c.leader(); who >= 0 {
			return who
		}
		c.round()
	}
	c.t.Fatal("P8.5: nobody leads within 200 rounds")
	return -1
}

// calm: all goes in calm rounds from now on, as P8.5 has it; told is the round from which on the leader leads.
func (c *crew) calm() int {
	clear(c.cut)
	since, who := 0, -1
	for n := range 200 {
		c.round()
		if is := c.leader(); is != who {
			since, who = n+1, is
		}
	}
	if who < 0 {
		c.t.Fatal("P8.5: nobody leads within 200 rounds")
	}
	term := c.nodes[who].Status().Term
	var proposed []uint64
	for n := range 20 {
		proposed = append(proposed, c.propose(who))
		c.round()
		if s := c.nodes[who].Status(); s.Role != api.Leader || s.Term != term {
			c.t.Fatal("P8.5: the leader does not go on leading")
		}
		for id, r := range c.nodes {
			s := r.Status()
			if n >= 7 && s.Commit < proposed[n-7] {
				c.t.Fatalf("P8.5: the node %d knows %d, 8 rounds later than %d was proposed", id, s.Commit, proposed[n-7])
			}
			if s.Leader != who+1 || s.Term != term || (s.Role == api.Leader) != (id == who) {
				c.t.Fatalf("P8.5: the node %d: %+v; %d leads", id, s, who)
			}
		}
	}
	return since
}

// state is the data of snapshots up to an index.
func state(index uint64) []byte { return []byte("s" + strconv.FormatUint(index, 10)) }

// fact is what is known committed at an index.
type fact struct {
	term uint64
	data string
	by   uint64 // the least term in which a node knew it
}

// watch holds what P8.4 promises against what was seen so far.
type watch struct {
	t        testing.TB
	leads    map[uint64]int    // who leads in a term
	votes    map[[2]uint64]int // whom a node votes for in a term
	known    map[uint64]fact
	most     uint64 // the greatest index that was known
	proposed map[string]bool
	was      []api.Status
	fresh    []bool // begun anew: Commit may be less
}

func watching(t testing.TB, n int) *watch {
	return &watch{t: t, leads: map[uint64]int{}, votes: map[[2]uint64]int{}, known: map[uint64]fact{}, proposed: map[string]bool{}, was: make([]api.Status, n), fresh: make([]bool, n)}
}

// anew: a node begins with what was kept.
func (w *watch) anew(id int) { w.fresh[id] = true }

// sent: is a message as P8.1 has it?
func (w *watch) sent(m api.Msg, id int) {
	if m.From != id || m.To == id || m.To < 0 || m.To >= len(w.was) || m.Term == 0 || m.Kind < api.MsgVote || m.Kind > api.MsgSnap {
		w.t.Fatalf("P8.1: the node %d sends %+v", id, m)
	}
}

// look: something was done with a node; logs is what all nodes have now.
func (w *watch) look(nodes []*raft.Node, logs []api.Log, id int) {
	s, l := nodes[id].Status(), logs[id]
	w.status(id, s, l)
	w.roles(id, s)
	w.committed(id, s, l, nodes[id].Known(0))
	for other, o := range logs {
		if other != id {
			w.alike(l, o)
		}
	}
	for leader, r := range nodes {
		if is := r.Status(); is.Role == api.Leader {
			w.complete(leader, is, logs[leader])
		}
	}
	w.was[id], w.fresh[id] = s, false
}

// status: is what a node tells of itself so?
func (w *watch) status(id int, s api.Status, l api.Log) {
	if !vault.Right(l) || l.Hard.Term != s.Term || l.Hard.Vote != s.Vote || s.First != l.Snap.Index+1 || s.Last != l.Snap.Index+uint64(len(l.Entries)) {
		w.t.Fatalf("P8.1: the node %d: %+v; %+v", id, s, l)
	}
	if s.Commit < l.Snap.Index || s.Commit > s.Last || s.Vote > len(w.was) {
		w.t.Fatalf("P8.1: the node %d: %+v", id, s)
	}
	if s.Role == api.Leader && (s.Leader != id+1 || s.Vote != id+1) || s.Role == api.Candidate && (s.Leader != 0 || s.Vote != id+1) {
		w.t.Fatalf("P8.1: the node %d: %+v", id, s)
	}
	if w.fresh[id] && (s.Role != api.Follower || s.Commit != l.Snap.Index || s.Leader != 0) {
		w.t.Fatalf("P8.1: the node %d, new: %+v", id, s)
	}
	if was := w.was[id]; s.Term < was.Term || !w.fresh[id] && s.Commit < was.Commit {
		w.t.Fatalf("P8.4: the node %d goes back: %+v; it was %+v", id, s, was)
	}
}

// roles: one leader, and one vote of each node, in a term.
func (w *watch) roles(id int, s api.Status) {
	if s.Leader > 0 {
		if who, ok := w.leads[s.Term]; ok && who != s.Leader-1 {
			w.t.Fatalf("P8.4: in the term %d lead %d and %d", s.Term, who, s.Leader-1)
		}
		w.leads[s.Term] = s.Leader - 1
	}
	key := [2]uint64{uint64(id), s.Term}
	if who := w.votes[key]; who != 0 && who != s.Vote {
		w.t.Fatalf("P8.4: the node %d votes for %d and %d in the term %d", id, who, s.Vote, s.Term)
	}
	w.votes[key] = s.Vote
}

// committed: what a node knows is what was known, and was proposed.
func (w *watch) committed(id int, s api.Status, l api.Log, list []api.Entry) {
	if uint64(len(list)) != s.Commit-l.Snap.Index {
		w.t.Fatalf("P8.1: the node %d knows %d entries: %+v", id, len(list), s)
	}
	for _, e := range list {
		if len(e.Data) > 0 && !w.proposed[string(e.Data)] {
			w.t.Fatalf("P8.4: %q was never proposed", e.Data)
		}
		is, ok := w.known[e.Index]
		if ok && (is.term != e.Term || is.data != string(e.Data)) {
			w.t.Fatalf("P8.4: the node %d knows %d %q at %d; known was %d %q", id, e.Term, e.Data, e.Index, is.term, is.data)
		}
		if !ok || s.Term < is.by {
			w.known[e.Index] = fact{e.Term, string(e.Data), s.Term}
		}
		w.most = max(w.most, e.Index)
	}
	if l.Snap.Index > 0 {
		is, ok := w.known[l.Snap.Index]
		if ok && is.term != l.Snap.Term || !bytes.Equal(l.Snap.Data, state(l.Snap.Index)) {
			w.t.Fatalf("P8.4: the node %d has the snapshot %+v; known was %+v", id, l.Snap, is)
		}
	}
}

// complete: has a leader all that was known in elder terms?
func (w *watch) complete(id int, s api.Status, l api.Log) {
	for index := l.Snap.Index + 1; index <= w.most; index++ {
		is, ok := w.known[index]
		if !ok || is.by >= s.Term {
			continue
		}
		if index > s.Last {
			w.t.Fatalf("P8.4: the leader %d of the term %d has not what was known at %d", id, s.Term, index)
		}
		if e := l.Entries[index-s.First]; e.Term != is.term || string(e.Data) != is.data {
			w.t.Fatalf("P8.4: the leader %d of the term %d has %d %q at %d; known was %d %q", id, s.Term, e.Term, e.Data, index, is.term, is.data)
		}
	}
}

// alike: where two logs have entries of one index and term, they are the same up to there.
func (w *watch) alike(a, b api.Log) {
	first := max(a.Snap.Index, b.Snap.Index) + 1
	last := min(a.Snap.Index+uint64(len(a.Entries)), b.Snap.Index+uint64(len(b.Entries)))
	same := false
	for index := last; index >= first; index-- {
		x, y := a.Entries[index-a.Snap.Index-1], b.Entries[index-b.Snap.Index-1]
		same = same || x.Term == y.Term
		if same && (x.Term != y.Term || !bytes.Equal(x.Data, y.Data)) {
			w.t.Fatalf("P8.4: two logs are the same further on, but have %d %q and %d %q at %d", x.Term, x.Data, y.Term, y.Data, index)
		}
	}
}

// dice: numbers that hang on a seed.
func dice(seed uint64) *rand.Rand { return rand.New(rand.NewPCG(seed, 8)) }
