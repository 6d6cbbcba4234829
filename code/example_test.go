package code_test

import (
	"fmt"

	"armoire/code"
)

func Example() {
	b := append(code.Num(300), code.Int(-1)...)
	b = append(b, code.Text([]byte("hat"))...)
	fmt.Printf("% x\n", b)

	r := code.New(b)
	fmt.Println(r.Num(), r.Int(), string(r.Text(20)), r.End())

	r = code.New([]byte{0x80, 0x00})
	fmt.Println(r.Num(), r.Left(), r.Err())
	// Output:
	// ac 02 01 03 68 61 74
	// 300 -1 hat ok
	// 0 2 form
}
