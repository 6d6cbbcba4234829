package route_test

import (
	"fmt"

	"armoire/route"
)

// The chapter's example.
func Example() {
	r, _ := route.New(2, 2)
	r, _ = route.Cut(r, 3, []byte{0x78, 0x05})
	r, e := route.Moved(r, 4)
	for _, o := range r.Spans {
		fmt.Printf("%d %x\n", o.Group, o.From)
	}
	fmt.Println(e, r.Epoch, route.Group(r, []byte{0x78, 0x04}), route.Group(r, []byte{0x78, 0x05}))
	// Output:
	// 3 78
	// 4 7805
	// ok 2 3 4
}
