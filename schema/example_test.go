package schema_test

import (
	"fmt"

	"armoire/api"
	"armoire/schema"
)

// The chapter's example, and an index that comes and goes.
func Example() {
	fmt.Println(schema.Next(api.Index{State: api.Backfill}) == api.Public)
	fmt.Println(schema.Writes(api.DropDelete), schema.Deletes(api.DropDelete))

	c, e := schema.AddTable(api.Catalog{Next: 1}, api.Table{Name: "hats", Columns: []api.Column{{Name: "size", Kind: api.Int}}, Key: []int{0}})
	c, e = schema.AddIndex(c, api.Index{Name: "sizes", Columns: []int{0}}, "hats")
	x, is := schema.Index(c, "sizes")
	fmt.Println(x.ID, x.State, is, e)

	c, e = schema.Step(c, x.ID, x.State, schema.Next(x), false)
	c, e = schema.Drop(c, "sizes")
	fmt.Println(c.Version, c.Indexes[0].State, e)
	// Output:
	// true
	// false true
	// 2 1 true ok
	// 4 6 ok
}
