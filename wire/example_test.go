package wire_test

import (
	"fmt"

	"armoire/api"
	"armoire/wire"
)

// The chapter's example, and the way back.
func Example() {
	b := wire.Call(api.Call{Client: 1, Seq: 2, Data: []byte("a")})
	fmt.Printf("% x\n", b)

	c, e := wire.TakeCall(b)
	fmt.Println(c.Client, c.Seq, string(c.Data), e)

	c, e = wire.TakeCall(b[:3])
	fmt.Println(c.Client, c.Seq, len(c.Data), e)
	// Output:
	// 01 02 01 61
	// 1 2 a ok
	// 0 0 0 short
}
