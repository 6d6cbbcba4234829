package rows_test

import (
	"fmt"

	"armoire/api"
	"armoire/rows"
)

// The chapter's example, and a row that leads to its entry, and that back to its name.
func Example() {
	t := api.Table{ID: 1, Name: "t", Columns: []api.Column{{Name: "a", Kind: api.Int}, {Name: "b", Kind: api.Text, Null: true}}, Key: []int{0}}
	fmt.Printf("%x\n", rows.Name(t, []api.Value{{Kind: api.Int, I: 5}}))

	row := []api.Value{{Kind: api.Int, I: 5}, {Kind: api.Text, S: "hat"}}
	p := rows.Entry(t, api.Index{ID: 2, Table: 1, Columns: []int{1}, Unique: true}, row)
	fmt.Printf("%x\n%x\n", p.Key, p.Value)
	name, is := rows.Owner(t, api.Index{ID: 2, Table: 1, Columns: []int{1}, Unique: true}, p)
	fmt.Printf("%x %v\n", name, is)
	// Output:
	// 72028000000000000001028000000000000005
	// 78028000000000000002036861740001
	// 72028000000000000001028000000000000005
	// 72028000000000000001028000000000000005 true
}
