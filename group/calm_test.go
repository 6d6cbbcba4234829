package group_test

import (
	"strconv"
	"testing"

	"armoire/api"
	"armoire/group"
)

// calmly: a call is made in each of calm rounds of who leads then; told is in which one it is answered.
func calmly(t *testing.T, g *group.Group, n int, c api.Call) int {
	t.Helper()
	for k := range 220 {
		if who := g.Leader(); who >= 0 {
			says(t, g, who, c)
		}
		round(g, n)
		if _, is := g.Answer(c.Client, c.Seq); is {
			return k + 1
		}
	}
	t.Fatalf("P11.5: %+v is not answered within 220 calm rounds", c)
	return 0
}

// P11.5: from a new group on, behind falls of all, and with all kinds of messages under way.
func TestCalm(t *testing.T) {
	for n := 1; n <= api.MaxNodes; n++ {
		t.Run(strconv.Itoa(n)+" nodes", func(t *testing.T) {
			g := made(t, n, roomy, machine)
			for seq := range uint64(12) {
				c := ask(1, seq+1)
				if k := calmly(t, g, n, c); k > 60 {
					t.Errorf("P11.5: the call %d is answered after %d rounds", seq+1, k)
				}
				unsettle(g, n, int(seq))
			}
			rounds(g, n, 60)
			for id := range n {
				is(t, g, id, all(g))
			}
			if len(commands(all(g))) != 12 {
				t.Errorf("P11.4: done: %q", all(g))
			}
		})
	}
}

// unsettle lets something come between: who leads falls, or all do; messages stay under way, or are lost.
func unsettle(g *group.Group, n, how int) {
	who := max(g.Leader(), 0)
	for id := range n {
		if how%3 == 0 && id == who || how%3 == 1 {
			g.Crash(id, []int{how})
			g.Start(id)
		}
		if how%4 == 0 {
			g.Shrink(id)
		}
	}
	for k := range how * 9 {
		g.Tick(k % n)
		if how%2 > 0 && g.Messages() > 3 {
			g.Double(k % g.Messages())
			g.Lose(0)
		}
	}
}

// P11.5: what is proposed is done by all nodes 8 rounds later.
func TestDoneByAll(t *testing.T) {
	for n := 1; n <= api.MaxNodes; n++ {
		g, who := led(t, n, roomy)
		want := ""
		for seq := uint64(1); seq < 20; seq++ {
			says(t, g, who, ask(1, seq))
			rounds(g, n, 8)
			want += string(ask(1, seq).Data) + "."
			for id := range n {
				is(t, g, id, want)
			}
		}
	}
}

// P11.5: a majority is enough: what is answered with some down is done by all when they are up.
func TestMajority(t *testing.T) {
	for n := 3; n <= api.MaxNodes; n++ {
		g := made(t, n, roomy, machine)
		for id := n - (n-1)/2; id < n; id++ {
			g.Crash(id, nil)
		}
		calmly(t, g, n, ask(1, 1))
		g.Crash(n-(n-1)/2-1, nil)
		if who := g.Leader(); who >= 0 {
			says(t, g, who, ask(1, 2))
		}
		rounds(g, n, 100)
		untold(t, g, 1, 2)
		for id := range n {
			g.Start(id)
		}
		calmly(t, g, n, ask(1, 2))
		rounds(g, n, 8)
		for id := range n {
			is(t, g, id, "1-1.1-2.")
		}
	}
}
