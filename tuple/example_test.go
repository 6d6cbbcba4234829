package tuple_test

import (
	"fmt"

	"armoire/api"
	"armoire/tuple"
)

func Example() {
	b, e := tuple.Enc([]api.Value{{Kind: api.Int, I: 1}})
	fmt.Printf("% x, %v\n", b, e)

	l, n, e := tuple.Dec([]byte("\x01\x03a\x00\xffb\x00\x01"))
	fmt.Printf("%q, %d, %v\n", l[1].S, n, e)

	fmt.Printf("% x\n", tuple.End([]byte{0x61, 0xff}))
	// Output:
	// 02 80 00 00 00 00 00 00 01, ok
	// "a\x00b", 8, ok
	// 62
}
