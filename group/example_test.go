package group_test

import (
	"fmt"

	"armoire/api"
	"armoire/group"
)

// The chapter's example.
func Example() {
	g, err := group.New(1, 4000, machine)
	for range 10 {
		g.Tick(0)
	}
	fmt.Println(err, g.Leader(), g.Call(0, api.Call{Client: 1, Seq: 1, Data: []byte("x")}))
	answer, is := g.Answer(1, 1)
	fmt.Println(string(answer), is)
	// Output:
	// <nil> 0 ok
	// 1:x true
}

// Three nodes: messages go between them, one falls, and begins again with what its disk has kept.
func Example_messages() {
	g, _ := group.New(3, 4000, machine)
	for range 10 {
		g.Tick(0)
	}
	for g.Messages() > 0 {
		g.Deliver(0)
	}
	fmt.Println(g.Leader(), g.Call(0, api.Call{Client: 1, Seq: 1, Data: []byte("x")}), g.Messages())
	g.Lose(0)
	g.Deliver(0)
	g.Deliver(0)
	answer, is := g.Answer(1, 1)
	fmt.Println(string(answer), is)
	fmt.Println(g.Crash(0, nil), g.Leader(), g.Start(0))
	// Output:
	// 0 ok 2
	// 1:x true
	// ok -1 <nil>
}
