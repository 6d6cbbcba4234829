package group_test

import (
	"bytes"
	"math/rand/v2"
	"strconv"
	"strings"
	"testing"

	"armoire/api"
	"armoire/group"
)

const roomy = 4000 // sectors of a disk that has room for all that these tests do

// tape is a machine that writes down what it does, and a dot behind each. Its answers tell how many commands that were, and the newest.
type tape struct {
	done []byte
	n    int
}

func (m *tape) Do(command []byte) []byte {
	m.n++
	m.done = append(append(m.done, command...), '.')
	return answer(m.n, string(command))
}

func (m *tape) Save() []byte { return bytes.Clone(m.done) }

func (m *tape) Load(b []byte) bool {
	m.done = bytes.Clone(b)
	m.n = bytes.Count(b, []byte{'.'})
	return true
}

func machine() api.Machine { return &tape{} }

// answer is what a tape answers its n-th command.
func answer(n int, command string) []byte { return []byte(strconv.Itoa(n) + ":" + command) }

// ran is what a tape has done, if it did just these calls in order, each once, as chapter 10 has it, and what each client's last one was answered.
func ran(calls []api.Call) (state string, told map[uint64]api.Call) {
	told = map[uint64]api.Call{}
	n := 0
	for _, c := range calls {
		if c.Seq <= told[c.Client].Seq {
			continue
		}
		n++
		state += string(c.Data) + "."
		c.Data = answer(n, string(c.Data))
		told[c.Client] = c
	}
	return state, told
}

// dice: numbers that hang on a seed.
func dice(seed uint64) *rand.Rand { return rand.New(rand.NewPCG(seed, 11)) }

// made: a new group.
func made(t testing.TB, n, sectors int, machine func() api.Machine) *group.Group {
	t.Helper()
	g, err := group.New(n, sectors, machine)
	if g == nil || err != nil {
		t.Fatalf("P11.1: New(%d, %d): %v", n, sectors, err)
	}
	return g
}

// led: a new group of n tapes, in which a node leads.
func led(t testing.TB, n, sectors int) (*group.Group, int) {
	t.Helper()
	g := made(t, n, sectors, machine)
	return g, leads(t, g, n)
}

// leads: calm rounds go by until a node leads.
func leads(t testing.TB, g *group.Group, n int) int {
	t.Helper()
	for range 200 {
		if who := g.Leader(); who >= 0 {
			return who
		}
		round(g, n)
	}
	t.Fatal("P11.5: nobody leads within 200 rounds")
	return -1
}

// round is a calm one.
func round(g *group.Group, n int) {
	for id := range n {
		g.Tick(id)
	}
	drain(g)
}

func rounds(g *group.Group, n, k int) {
	for range k {
		round(g, n)
	}
}

// drain delivers all, and all that comes of it.
func drain(g *group.Group) {
	for g.Messages() > 0 {
		g.Deliver(0)
	}
}

// ask is a call whose Data tells its numbers.
func ask(client, seq uint64) api.Call {
	return api.Call{Client: client, Seq: seq, Data: []byte(strconv.FormatUint(client, 10) + "-" + strconv.FormatUint(seq, 10))}
}

// says makes a call of who leads, which has to be taken.
func says(t testing.TB, g *group.Group, who int, c api.Call) {
	t.Helper()
	if e := g.Call(who, c); e != api.OK {
		t.Fatalf("P11.1: Call(%d, %+v): %v", who, c, e)
	}
}

// is asks for the state of a node that is up.
func is(t testing.TB, g *group.Group, id int, want string) {
	t.Helper()
	if b, up := g.State(id); !up || string(b) != want {
		t.Errorf("P11.3: State(%d): %q, %v; want %q", id, b, up, want)
	}
}

// told asks what a call was answered.
func told(t testing.TB, g *group.Group, client, seq uint64, want string) {
	t.Helper()
	if b, is := g.Answer(client, seq); !is || string(b) != want {
		t.Errorf("P11.1: Answer(%d, %d): %q, %v; want %q", client, seq, b, is, want)
	}
}

// untold asks what was not answered, or is told no more.
func untold(t testing.TB, g *group.Group, client, seq uint64) {
	t.Helper()
	if b, is := g.Answer(client, seq); is || b != nil {
		t.Errorf("P11.1: Answer(%d, %d): %q, %v; want nothing", client, seq, b, is)
	}
}

// down: is a node as one that is down?
func down(t testing.TB, g *group.Group, id int) {
	t.Helper()
	s, up := g.Status(id)
	b, has := g.State(id)
	if up || has || s != (api.Status{}) || b != nil {
		t.Errorf("P11.3: the node %d, which is down: %+v, %v; %q, %v", id, s, up, b, has)
	}
	if e := g.Tick(id); e != api.ErrDown {
		t.Errorf("P11.2: Tick(%d) of a node that is down: %v", id, e)
	}
	if e := g.Call(id, ask(1, 1)); e != api.ErrDown {
		t.Errorf("P11.1: Call(%d) of a node that is down: %v", id, e)
	}
	if e := g.Crash(id, nil); e != api.ErrDown {
		t.Errorf("P11.2: Crash(%d) of a node that is down: %v", id, e)
	}
	if e := g.Shrink(id); e != api.ErrDown {
		t.Errorf("P11.2: Shrink(%d) of a node that is down: %v", id, e)
	}
}

// all is the state of the group's machine.
func all(g *group.Group) string { return string(g.Machine().Save()) }

// commands is what a tape's state tells one by one.
func commands(state string) []string {
	return strings.Split(strings.TrimSuffix(state, "."), ".")
}
