package pages_test

import (
	"fmt"

	"armoire/api"
	"armoire/pages"
)

func Example() {
	m := pages.New()
	m.Put(api.Pair{Key: []byte("b"), Value: []byte("hat")})
	m.Put(api.Pair{Key: []byte("a"), Value: []byte("coat")})
	before := m.Fork()

	for p := range m.Scan(api.Span{}, false) {
		fmt.Printf("%s: %s\n", p.Key, p.Value)
	}
	for p := range m.Scan(api.Span{To: []byte("c")}, true) {
		fmt.Printf("back: %s\n", p.Key)
	}
	gone := m.Take(api.Span{From: []byte("b")})
	fmt.Println(len(gone), m.Len(), before.Len(), m.Sizes())
	// Output:
	// a: coat
	// b: hat
	// back: b
	// back: a
	// 1 1 2 [1]
}
