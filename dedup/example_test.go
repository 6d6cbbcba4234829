package dedup_test

import (
	"fmt"

	"armoire/api"
	"armoire/dedup"
	"armoire/wire"
)

// The chapter's example, and what follows of it.
func Example() {
	m := &tape{}
	d := dedup.New(m)
	x := wire.Call(api.Call{Client: 1, Seq: 1, Data: []byte("x")})
	fmt.Printf("%s %s, done: %s\n", d.Do(x), d.Do(x), m.done)

	f := dedup.New(&tape{})
	fmt.Println(f.Load(d.Save()))
	answer, is := f.Told(1, 1)
	fmt.Println(string(answer), is)
	// Output:
	// 1:x 1:x, done: x
	// true
	// 1:x true
}
