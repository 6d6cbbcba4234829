package lock_test

import (
	"fmt"

	"armoire/api"
	"armoire/lock"
)

// The chapter's example.
func Example() {
	t := lock.New()
	a := []byte("a")
	fmt.Println(t.Put(api.Held{Txn: 1, Keys: [][]byte{a}}))
	fmt.Println(t.May(api.Held{Txn: 2, Keys: [][]byte{a}}))
	fmt.Println(t.May(api.Held{Txn: 2, Writes: []api.Write{{Key: a}}}))
	fmt.Println(t.Free(a), t.Touches(api.Span{From: a}), t.Txns())
	// Output:
	// ok
	// ok
	// locked
	// true true [1]
}
