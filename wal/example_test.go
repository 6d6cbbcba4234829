package wal_test

import (
	"fmt"

	"armoire/disk"
	"armoire/wal"
)

// The chapter's example.
func Example() {
	d, _ := disk.New(40)
	l, e := wal.Open(d)
	fmt.Println(e, l.Append([]byte("a")), l.Append([]byte("b")), l.Sync(), l.Cut(1))
	fmt.Printf("%d %d %q\n", l.First(), l.Next(), l.Records())
	// Output:
	// ok ok ok ok ok
	// 1 2 ["b"]
}
