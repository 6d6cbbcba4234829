package raft_test

import (
	"math/rand/v2"
	"slices"
	"strconv"
	"testing"

	"armoire/api"
)

// weather is how often, of 1000 moves, something comes about that is not a message's arrival.
type weather struct {
	tick, lose, double, fall, half, propose, compact, cut int
	order                                                 bool // messages arrive in their order
}

var weathers = []weather{
	{tick: 250, lose: 60, double: 60, fall: 8, half: 8, propose: 60, compact: 10},
	{tick: 400, lose: 10, double: 100, fall: 3, half: 1, propose: 40, compact: 30},
	{tick: 150, lose: 5, double: 5, fall: 1, half: 1, propose: 100, compact: 20, cut: 8, order: true},
	{tick: 350, lose: 100, double: 20, fall: 30, half: 20, propose: 60, compact: 5, cut: 5},
	{tick: 200, lose: 1, double: 200, propose: 30, compact: 3, cut: 4},
}

// storm does so many moves in that weather.
func (c *crew) storm(r *rand.Rand, w weather, moves int) {
	for range moves {
		id := r.IntN(len(c.nodes))
		x := r.IntN(1000)
		hit := func(n int) bool { x -= n; return x < 0 }
		switch {
		case hit(w.tick):
			c.ticks(r, id)
		case hit(w.fall):
			c.anew(id)
		case hit(w.half):
			c.half(r, id)
		case hit(w.propose):
			if c.nodes[id].Status().Role == api.Leader {
				c.propose(id)
			}
		case hit(w.compact):
			if s := c.nodes[id].Status(); s.Commit >= s.First {
				c.compact(id, s.First+r.Uint64N(s.Commit-s.First+1))
			}
		case hit(w.cut):
			clear(c.cut)
			c.cut[id] = r.IntN(3) > 0
		case len(c.msgs) == 0:
			c.ticks(r, id)
		case hit(w.lose) || len(c.msgs) > 80:
			i := r.IntN(len(c.msgs))
			c.msgs = slices.Delete(c.msgs, i, i+1)
		case hit(w.double):
			c.msgs = append(c.msgs, c.msgs[r.IntN(len(c.msgs))])
		case w.order:
			c.deliver(0)
		default:
			c.deliver(r.IntN(len(c.msgs)))
		}
	}
}

// ticks: a node's time goes on; now and then by more than the others'.
func (c *crew) ticks(r *rand.Rand, id int) {
	for range 1 + r.IntN(4)*r.IntN(3) {
		c.tick(id)
	}
}

// half: a node falls when it has done something, but neither kept nor sent what came of it.
func (c *crew) half(r *rand.Rand, id int) {
	c.nodes[id].Tick()
	for range r.IntN(4) {
		if len(c.msgs) > 0 {
			i := r.IntN(len(c.msgs))
			if c.msgs[i].To == id {
				c.nodes[id].Step(c.msgs[i])
			}
		}
	}
	c.anew(id)
}

// blank: so many zero logs.
func blank(n int) []api.Log { return make([]api.Log, n) }

// P8.4 whatever comes, and P8.5 from any time on.
func TestStorms(t *testing.T) {
	seeds := 60
	if testing.Short() {
		seeds = 10
	}
	for n := 1; n <= api.MaxNodes; n++ {
		for i, w := range weathers {
			t.Run(strconv.Itoa(n)+" nodes", func(t *testing.T) {
				t.Parallel()
				done := 0
				for seed := range seeds {
					t.Logf("seed %d", seed)
					r := dice(uint64(seed*100 + n*10 + i))
					c := crewOf(t, blank(n)...)
					for range 1 + seed%3 {
						c.storm(r, w, 500)
						done += int(c.watch.most)
						c.calm()
					}
				}
				if done < seeds*10 {
					t.Errorf("P8.4: %d nodes in the weather %d know no more than %d entries of %d storms", n, i, done, seeds)
				}
			})
		}
	}
}
