package raft_test

import (
	"fmt"

	"armoire/api"
	"armoire/raft"
)

// The chapter's example.
func Example() {
	r, e := raft.New(0, 1, api.Log{})
	for range 10 {
		r.Tick()
	}
	s := r.Status()
	fmt.Println(e, s.Role == api.Leader, s.Term, s.Last, s.Commit)
	fmt.Println(r.Propose([]byte("x")))
	fmt.Printf("%s\n", r.Known(2)[0].Data)
	// Output:
	// ok true 1 1 1
	// 2 ok
	// x
}
