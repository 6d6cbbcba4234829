package dedup_test

import (
	"bytes"
	"math"
	"strconv"
	"testing"

	"armoire/api"
	"armoire/dedup"
	"armoire/wire"
)

const (
	greatest = math.MaxUint64
	maxText  = 65536 // bytes that wire reads of a text
)

// tape is a machine that writes down what it does. Its answers tell how many commands that were, and the newest. It loads nothing that begins with '!'.
type tape struct {
	done []byte
	n    int
}

func (m *tape) Do(command []byte) []byte {
	m.n++
	m.done = append(m.done, command...)
	return append(strconv.AppendInt(nil, int64(m.n), 10), ":"+string(command)...)
}

func (m *tape) Save() []byte { return append([]byte{byte(m.n)}, m.done...) }

func (m *tape) Load(b []byte) bool {
	if len(b) == 0 || b[0] == '!' {
		return false
	}
	m.n = int(b[0])
	m.done = bytes.Clone(b[1:])
	return true
}

// scripted is a machine whose calls are what a test says.
type scripted struct {
	do   func(command []byte) []byte
	save func() []byte
	load func(b []byte) bool
}

func (m scripted) Do(command []byte) []byte { return m.do(command) }
func (m scripted) Save() []byte             { return m.save() }
func (m scripted) Load(b []byte) bool       { return m.load(b) }

// telling is a machine that answers what is said, and has no state.
func telling(answer []byte) api.Machine {
	return scripted{
		do:   func([]byte) []byte { return answer },
		save: func() []byte { return nil },
		load: func(b []byte) bool { return len(b) == 0 },
	}
}

func call(client, seq uint64, data string) []byte {
	return wire.Call(api.Call{Client: client, Seq: seq, Data: []byte(data)})
}

// made is a machine over a tape that has done calls of four clients, which did not come by rising numbers.
func made() (*dedup.Machine, *tape) {
	m := &tape{}
	d := dedup.New(m)
	d.Do(call(7, 2, "a"))
	d.Do(call(greatest, greatest, "b"))
	d.Do(call(0, 1, "c"))
	d.Do(call(300, 5, "d"))
	d.Do(call(7, 9, "e"))
	return d, m
}

// tells asks what a client was told last.
func tells(t *testing.T, d *dedup.Machine, client, seq uint64, want string) {
	t.Helper()
	if a, is := d.Told(client, seq); !is || string(a) != want {
		t.Errorf("P10.1: Told(%d, %d): %q, %v; want %q", client, seq, a, is, want)
	}
}

// untold asks for what no client was told last.
func untold(t *testing.T, d *dedup.Machine, client, seq uint64) {
	t.Helper()
	if a, is := d.Told(client, seq); is || len(a) > 0 {
		t.Errorf("P10.1: Told(%d, %d): %q, %v; want nothing", client, seq, a, is)
	}
}

// isMade looks whether d, over m, is what made makes.
func isMade(t *testing.T, d *dedup.Machine, m *tape) {
	t.Helper()
	tells(t, d, 7, 9, "5:e")
	tells(t, d, greatest, greatest, "2:b")
	tells(t, d, 0, 1, "3:c")
	tells(t, d, 300, 5, "4:d")
	if string(m.done) != "abcde" || m.n != 5 {
		t.Errorf("what is below has done %q, %d of them; want abcde, 5", m.done, m.n)
	}
	want, _ := made()
	if b := d.Save(); !bytes.Equal(b, want.Save()) {
		t.Errorf("P10.2: Save: % x; want % x", b, want.Save())
	}
}
