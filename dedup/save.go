package dedup

import (
	"bytes"
	"maps"
	"math"
	"slices"

	"armoire/api"
	"armoire/code"
)

const most = math.MaxInt32 // clients, and bytes of a text: as far as the promises hold

// Save: how many clients there are, each one with its last call, by rising clients, and the state of the machine below, as a text.
func (d *Machine) Save() []byte {
	if d.none() {
		return nil
	}
	b := code.Num(uint64(len(d.clients)))
	for _, client := range slices.Sorted(maps.Keys(d.clients)) {
		l := d.clients[client]
		b = append(b, code.Num(client)...)
		b = append(b, code.Num(l.seq)...)
		b = append(b, code.Text(l.answer)...)
	}
	return append(b, code.Text(d.m.Save())...)
}

// Load: all is as it was when Save told b.
func (d *Machine) Load(b []byte) bool {
	if d.none() {
		return false
	}
	r := code.New(b)
	clients, right := takeClients(r)
	state := r.Text(most)
	if !right || r.End() != api.OK || !loadWhole(d.m, state) {
		return false
	}
	d.clients = clients
	return true
}

// takeClients reads the clients that Save wrote, and tells whether they are as it writes them.
func takeClients(r *code.Reader) (map[uint64]last, bool) {
	clients := make(map[uint64]last)
	var ahead uint64
	for i := range r.Small(most) {
		client := r.Num()
		l := last{seq: r.Num(), answer: r.Text(most)}
		if r.Err() != api.OK || l.seq == 0 || i > 0 && client <= ahead {
			return nil, false
		}
		clients[client] = l
		ahead = client
	}
	return clients, true
}

// loadWhole loads a machine, if state is what it saves then. One that takes bytes which it would not tell gets back what it had.
func loadWhole(m api.Machine, state []byte) bool {
	was := m.Save()
	if !m.Load(state) {
		return false
	}
	if !bytes.Equal(m.Save(), state) {
		m.Load(was)
		return false
	}
	return true
}
