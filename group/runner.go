package group

import (
	"bytes"

	"armoire/api"
	"armoire/dedup"
	"armoire/fault"
)

// runner is a machine that does what is known committed, each call once.
type runner struct {
	m    api.Machine
	once *dedup.Machine // over m
	done uint64         // the index up to which all is done
}

// newRunner is one that has done nothing.
func newRunner(m api.Machine) *runner { return &runner{m: m, once: dedup.New(m)} }

// runnerOf is one that has done what a snapshot covers.
func runnerOf(m api.Machine, s api.Snap) (*runner, error) {
	r := newRunner(m)
	if s.Index == 0 {
		return r, nil // there is no snapshot
	}
	if !r.once.Load(s.Data) {
		return nil, fault.New(api.ErrBad, "machine")
	}
	r.done = s.Index
	return r, nil
}

// do does the next entry. One without Data is a leader's mark, and nobody's call.
func (r *runner) do(e api.Entry) {
	if len(e.Data) > 0 {
		r.once.Do(e.Data)
	}
	r.done = e.Index
}

// state is what the machine saves: a copy, as what a machine hands out may be its own.
func (r *runner) state() []byte {
	if r.m == nil {
		return nil
	}
	return bytes.Clone(r.m.Save())
}
