package raft_test

import (
	"math/rand/v2"
	"strconv"
	"testing"

	"armoire/api"
)

// P8.5: from whatever ticks on the nodes of small groups begin, and whoever has the longer logs.
func TestCalmFromAnyTicks(t *testing.T) {
	lasts := [][]int{{0, 0, 0}, {0, 0, 1}, {0, 1, 0}, {1, 0, 0}, {0, 1, 1}, {1, 0, 1}, {1, 1, 0}, {0, 1, 2}, {0, 2, 1}, {1, 0, 2}, {2, 0, 1}, {1, 2, 0}, {2, 1, 0}}
	for _, n := range []int{2, 3} {
		for _, last := range lasts {
			t.Run(strconv.Itoa(n)+" nodes", func(t *testing.T) {
				t.Parallel()
				for a := 0; a < 10; a += n - 1 {
					for b := range 13 {
						for c := 0; c < 16 && (n == 3 || c == 0); c += 3 {
							calmFrom(t, n, last, []int{a, b, c})
						}
					}
				}
			})
		}
	}
}

// calmFrom: all is calm when each node has waited so many ticks.
func calmFrom(t *testing.T, n int, last, waited []int) {
	var logs []api.Log
	for id := range n {
		logs = append(logs, logOf(2, []uint64{1, 2}[:last[id]]...))
	}
	c := crewOf(t, logs...)
	for id := range n {
		ticks(c.nodes[id], waited[id])
	}
	if since := c.calm(); since > 60 {
		t.Errorf("P8.5: %d nodes, which have waited %v, with logs of %v: %d rounds", n, waited, last, since)
	}
}

// P8.5: of greater groups: from some ticks on, in other terms, with other logs, as candidates, with messages under way.
func TestCalmFromSome(t *testing.T) {
	for n := 4; n <= api.MaxNodes; n++ {
		for part := range 4 {
			t.Run(strconv.Itoa(n)+" nodes", func(t *testing.T) {
				t.Parallel()
				for seed := range 60 {
					t.Logf("seed %d", seed)
					r := dice(uint64(seed*8 + part))
					var logs []api.Log
					for range n {
						logs = append(logs, someTerms(r, 6))
					}
					c := crewOf(t, logs...)
					for id := range n {
						for range r.IntN(50) {
							c.tick(id)
						}
					}
					c.msgs = c.msgs[:r.IntN(1+len(c.msgs))]
					c.calm()
				}
			})
		}
	}
}

// someTerms is a log up to some index, whose entries have some terms: of all logs with an entry of one index and term this is the beginning.
func someTerms(r *rand.Rand, most int) api.Log {
	var terms []uint64
	for term := uint64(1 + r.IntN(3)); len(terms) < most && r.IntN(4) > 0; {
		terms = append(terms, term)
	}
	return logOf(3+r.Uint64N(4), terms...)
}

// P8.5: as many as 200 entries that others lack, in whatever terms.
func TestCalmBehindLongLogs(t *testing.T) {
	long := func(from, terms uint64) api.Log {
		l := api.Log{Hard: api.Hard{Term: 60}}
		for i := range uint64(200) {
			l.Entries = append(l.Entries, api.Entry{Term: from + 5*(i*terms/200), Index: i + 1, Data: []byte("d" + strconv.Itoa(int(from)*1000+int(i)))})
		}
		return l
	}
	short := func(l api.Log, n int) api.Log {
		l.Entries = l.Entries[:n]
		return l
	}
	none := short(long(1, 1), 0)
	for i, logs := range [][]api.Log{
		{long(1, 1), none, none}, {none, long(1, 1), none}, {none, none, long(1, 10)}, {none, long(2, 9)},
		{long(1, 11), long(2, 10), long(3, 9)}, {long(5, 1), long(4, 1), long(3, 1), long(2, 1), long(1, 1)},
		{short(long(1, 10), 199), short(long(2, 10), 50), long(3, 11), none, short(long(4, 2), 101)},
		{long(1, 11), short(long(1, 11), 17), short(long(2, 11), 199), short(long(3, 11), 180)},
	} {
		c := crewOf(t, logs...)
		if since := c.calm(); since > 60 {
			t.Errorf("P8.5: the row %d: %d rounds", i, since)
		}
	}
}

// P8.5: a node that was away for long, and falls now and then, comes back.
func TestCalmBehindCuts(t *testing.T) {
	for n := 3; n <= api.MaxNodes; n++ {
		c := crewOf(t, blank(n)...)
		for k := range 8 {
			who := c.led()
			away := (who + k) % n
			c.cut[away] = true
			if k%2 > 0 {
				c.anew(away)
			}
			c.rounds(30)
			who = c.led()
			for range 20 {
				c.propose(who)
				c.round()
			}
			if s := c.nodes[who].Status(); k%3 > 0 && s.Commit >= s.First {
				c.compact(who, s.Commit-s.Commit%4)
			}
			if s := c.nodes[who].Status(); s.Commit < s.Last {
				t.Errorf("P8.5: %d of %d nodes are there: %+v", n-1, n, s)
			}
			c.calm()
		}
	}
}

// P8.5: what is proposed while messages are under way is known by all 8 rounds later, too.
func TestKnownInTime(t *testing.T) {
	for n := 1; n <= api.MaxNodes; n++ {
		c := crewOf(t, blank(n)...)
		c.rounds(40)
		who := c.led()
		for range 200 {
			c.propose(who)
		}
		last := c.propose(who)
		c.rounds(8)
		for id, r := range c.nodes {
			if s := r.Status(); s.Commit != last {
				t.Errorf("P8.5: the node %d of %d: %+v; want Commit %d", id, n, s, last)
			}
		}
		quiet := 0
		for range 30 {
			for id := range n {
				c.tick(id)
			}
			quiet += len(c.msgs)
			c.drain()
		}
		if quiet > 30*2*n {
			t.Errorf("P8.2: %d nodes to whom nobody proposes anything send %d messages in 30 rounds", n, quiet)
		}
	}
}
