package group_test

import (
	"bytes"
	"math/rand/v2"
	"slices"
	"strconv"
	"strings"
	"testing"

	"armoire/api"
	"armoire/fault"
	"armoire/group"
	"armoire/vault"
)

// storm is a group to which everything happens, and what was seen of it so far. Its disks may fall at any Write or Flush.
type storm struct {
	t        testing.TB
	n        int
	d        *rand.Rand
	g        *group.Group
	seqs     map[uint64]uint64
	called   map[string]bool // what was asked with an answer of OK, or of ErrDown where the node fell with it
	answered map[string]string
	state    string // of the group's machine
	calls    []api.Call
	done     uint64
	falls    int // of disks, in the midst of what they did
	snaps    int // that were sent, and taken
	first    map[int]uint64
}

func stormOver(t testing.TB, n, sectors int, d *rand.Rand) *storm {
	return &storm{t: t, n: n, d: d, g: made(t, n, sectors, machine), seqs: map[uint64]uint64{}, called: map[string]bool{}, answered: map[string]string{}, first: map[int]uint64{}}
}

// move is one, whatever it is.
func (s *storm) move() {
	g, d := s.g, s.d
	id := d.IntN(s.n)
	up := s.ups()
	switch x := d.IntN(200); {
	case x < 60:
		g.Tick(id)
	case x < 140:
		g.Deliver(d.IntN(1 + g.Messages()/3))
	case x < 144:
		g.Lose(d.IntN(1 + g.Messages()))
	case x < 152:
		g.Double(d.IntN(1 + g.Messages()))
	case x < 172:
		s.call(id)
	case x < 175:
		g.Crash(id, s.keep())
	case x < 178:
		g.Disk(id).Arm(1 + d.IntN(12))
	case x < 194:
		if err := g.Start(id); fault.Is(err, api.OK) == slices.Contains(up, id) {
			s.t.Fatalf("P11.2: Start(%d): %v; up are %v", id, err, up)
		}
	default:
		g.Shrink(id)
	}
	s.fallen(up)
	s.look()
}

// call asks something of a node, mostly of who leads: what was asked already, or something new.
func (s *storm) call(id int) {
	if who := s.g.Leader(); who >= 0 && s.d.IntN(8) > 0 {
		id = who
	}
	client := 1 + s.d.Uint64N(3)
	if s.seqs[client] == 0 || s.d.IntN(3) > 0 {
		s.seqs[client]++
	}
	c := ask(client, s.seqs[client]-s.d.Uint64N(min(2, s.seqs[client])))
	_, was := s.g.Status(id)
	if e := s.g.Call(id, c); e == api.OK || e == api.ErrDown && was {
		s.called[string(c.Data)] = true
	}
}

func (s *storm) keep() []int {
	var keep []int
	for range s.d.IntN(6) {
		keep = append(keep, s.d.IntN(api.Sector+20)-5)
	}
	return keep
}

// ups is which nodes are up.
func (s *storm) ups() []int {
	var list []int
	for id := range s.n {
		if _, up := s.g.Status(id); up {
			list = append(list, id)
		}
	}
	return list
}

// fallen lets a disk that was hit keep some of what waits on it.
func (s *storm) fallen(up []int) {
	for _, id := range up {
		if _, still := s.g.Status(id); !still && s.g.Disk(id).Down() {
			s.falls++
			s.g.Disk(id).Crash(s.keep())
			delete(s.first, id)
		}
	}
}

// look holds what P11.3 and P11.4 promise against what is seen.
func (s *storm) look() {
	s.t.Helper()
	s.machines()
	s.committed()
	s.answers()
	for _, id := range s.ups() {
		is, _ := s.g.Status(id)
		if was, ok := s.first[id]; ok && was < is.First && is.Role != api.Leader {
			s.snaps++
		}
		s.first[id] = is.First
		s.kept(id)
	}
}

// machines: what a node's machine has done is a beginning of what the group's machine has done, and that never goes back.
func (s *storm) machines() {
	s.t.Helper()
	state := all(s.g)
	if !strings.HasPrefix(state, s.state) || s.g.Done() < s.done {
		s.t.Fatalf("P11.4: the group's machine goes back: %q, %q; %d, %d", s.state, state, s.done, s.g.Done())
	}
	fresh := commands(state[len(s.state):])
	for _, x := range fresh {
		if x != "" && (!s.called[x] || strings.Contains("."+s.state, "."+x+".")) {
			s.t.Fatalf("P11.4: the group's machine has done %q: not called, or twice: %q", x, state)
		}
		s.state += x + "."
	}
	s.state, s.done = state, s.g.Done()
	for _, id := range s.ups() {
		b, _ := s.g.State(id)
		is, _ := s.g.Status(id)
		if !strings.HasPrefix(state, string(b)) || is.Commit > s.done {
			s.t.Fatalf("P11.4: the node %d has done %q, up to %d; the group %q, up to %d", id, b, is.Commit, state, s.done)
		}
	}
}

// committed: the calls that are done stay, and come to what the machine has done.
func (s *storm) committed() {
	s.t.Helper()
	calls := s.g.Committed()
	if len(calls) < len(s.calls) || !slices.EqualFunc(s.calls, calls[:len(s.calls)], sameCall) {
		s.t.Fatalf("P11.4: Committed goes back: %+v, %+v", s.calls, calls)
	}
	s.calls = calls
	if want, _ := ran(calls); want != s.state {
		s.t.Fatalf("P11.3: Committed comes to %q; the group's machine has done %q", want, s.state)
	}
}

// answers: what was answered stays so, as long as it is that client's last call, and is done.
func (s *storm) answers() {
	s.t.Helper()
	for client, seq := range s.seqs {
		for at := max(seq, 3) - 2; at <= seq; at++ {
			name := string(ask(client, at).Data)
			a, is := s.g.Answer(client, at)
			was, ever := s.answered[name]
			if is && ever && was != string(a) {
				s.t.Fatalf("P11.4: %s was answered %q, and now %q", name, was, a)
			}
			if is && !strings.Contains("."+s.state, "."+name+".") {
				s.t.Fatalf("P11.4: %s was answered, and not done: %q", name, s.state)
			}
			if !is && ever && !s.later(client, at) {
				s.t.Fatalf("P11.4: the answer of %s is lost", name)
			}
			if is {
				s.answered[name] = string(a)
			}
		}
	}
}

// later: was a call done that this client has asked behind that one?
func (s *storm) later(client, seq uint64) bool {
	return slices.ContainsFunc(s.calls, func(c api.Call) bool { return c.Client == client && c.Seq > seq })
}

// kept: what a node has to keep is on its disk, whatever fall comes now: so it was ahead of all that it has sent.
func (s *storm) kept(id int) {
	s.t.Helper()
	d := s.g.Disk(id).Fork()
	d.Crash(nil)
	d.Start()
	v, err := vault.Open(d)
	if err != nil {
		s.t.Fatalf("the disk of the node %d: %v", id, err)
	}
	if !sameLog(v.Log(), s.g.Kept(id)) {
		s.t.Fatalf("the node %d has kept %+v; it was to keep %+v", id, v.Log(), s.g.Kept(id))
	}
}

func sameLog(a, b api.Log) bool {
	return a.Hard == b.Hard && a.Snap.Index == b.Snap.Index && a.Snap.Term == b.Snap.Term && bytes.Equal(a.Snap.Data, b.Snap.Data) && slices.EqualFunc(a.Entries, b.Entries, func(x, y api.Entry) bool {
		return x.Index == y.Index && x.Term == y.Term && bytes.Equal(x.Data, y.Data)
	})
}

// calm: all nodes are up, and all goes in calm rounds, in each of which the same call is made of who leads. Told is in which round it is answered.
func (s *storm) calm() int {
	s.t.Helper()
	for id := range s.n {
		s.g.Disk(id).Arm(0)
		s.g.Start(id)
	}
	client := uint64(1)
	s.seqs[client]++
	c := ask(client, s.seqs[client])
	s.called[string(c.Data)] = true
	for k := range 220 {
		if who := s.g.Leader(); who >= 0 {
			says(s.t, s.g, who, c)
		}
		round(s.g, s.n)
		s.look()
		if _, is := s.g.Answer(c.Client, c.Seq); is {
			return k + 1
		}
	}
	s.t.Fatal("P11.5: no answer within 220 calm rounds")
	return 0
}

// same: what one node's machine has told every node's machine tells, sooner or later.
func (s *storm) same() {
	s.t.Helper()
	rounds(s.g, s.n, 8)
	s.look()
	for id := range s.n {
		is(s.t, s.g, id, s.state)
	}
}

// P11.4, P11.5: whatever comes in whatever order; and when it is calm again, all is answered.
func TestStorms(t *testing.T) {
	for n := 1; n <= api.MaxNodes; n++ {
		t.Run(strconv.Itoa(n)+" nodes", func(t *testing.T) {
			t.Parallel()
			done, falls, snaps := 0, 0, 0
			for seed := range uint64(10) {
				t.Logf("seed %d", seed)
				s := stormOver(t, n, 3000, dice(1000+seed*10+uint64(n)))
				for range 4 {
					for range 200 {
						s.move()
					}
					if k := s.calm(); k > 60 {
						t.Errorf("P11.5: it is answered after %d rounds", k)
					}
					s.same()
				}
				done, falls, snaps = done+len(s.calls), falls+s.falls, snaps+s.snaps
			}
			if done < 200 || falls < 20 || n > 2 && snaps < 5 {
				t.Errorf("the storms are too mild: %d calls, %d falls, %d snapshots", done, falls, snaps)
			}
		})
	}
}
