package fault_test

import (
	"fmt"

	"armoire/api"
	"armoire/fault"
)

func Example() {
	e := fault.Wrap(fault.New(api.ErrLocked, "shard"), "txn")
	fmt.Println(e)
	fmt.Println(fault.Code(e), fault.Where(e), fault.Again(fault.Code(e)))
	// Output:
	// txn: shard: locked
	// locked [txn shard] 2
}
