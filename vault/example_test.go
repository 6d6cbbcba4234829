package vault_test

import (
	"fmt"

	"armoire/api"
	"armoire/disk"
	"armoire/vault"
)

// The chapter's example.
func Example() {
	d, _ := disk.New(100)
	v, err := vault.Open(d)
	fmt.Println(err, v.Put(api.Log{Hard: api.Hard{Term: 1}}))
	fmt.Println(d.Crash(nil), d.Start())
	v, err = vault.Open(d)
	fmt.Println(err, v.Log().Hard.Term)
	// Output:
	// <nil> <nil>
	// ok ok
	// <nil> 1
}
