package disk_test

import (
	"bytes"
	"fmt"

	"armoire/api"
	"armoire/disk"
)

// The chapter's example.
func Example() {
	d, _ := disk.New(2)
	fmt.Println(d.Write(0, bytes.Repeat([]byte{'x'}, api.Sector)), d.Waiting())
	fmt.Println(d.Crash([]int{3}), d.Down(), d.Waiting())
	fmt.Println(d.Start(), d.Down())
	b, e := d.Read(0)
	fmt.Printf("%q %d %v\n", b[:5], len(b), e)
	// Output:
	// ok 1
	// ok true 0
	// ok false
	// "xxx\x00\x00" 64 ok
}
