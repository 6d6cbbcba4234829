package rows_test

import (
	"bytes"
	"math"
	"slices"
	"strings"
	"testing"

	"armoire/api"
	"armoire/rows"
)

// oddTables are tables of which nothing is said but that no call panics.
func oddTables() []api.Table {
	columns := slices.Repeat([]api.Column{{Kind: api.Int}}, 20)
	nulls := slices.Repeat([]api.Column{{Kind: api.Text, Null: true}}, 20)
	return []api.Table{
		{},
		{ID: math.MinInt, Key: []int{0}},
		{ID: math.MaxInt, Columns: hats().Columns},
		{ID: -1, Columns: hats().Columns, Key: []int{-1}},
		{ID: 1, Columns: hats().Columns, Key: []int{4}},
		{ID: 1, Columns: hats().Columns, Key: []int{0, math.MaxInt, math.MinInt}},
		{ID: 1, Columns: hats().Columns, Key: []int{0, 0, 1, 1}},
		{ID: 1, Columns: hats().Columns, Key: []int{2, 3}},
		{ID: 1, Columns: columns, Key: []int{19}},
		{ID: 1, Columns: nulls, Key: []int{19, 0}},
		{ID: 1, Columns: hats().Columns, Key: slices.Repeat([]int{1, 0}, 10)},
		{ID: 1, Columns: []api.Column{{Kind: 0}, {Kind: -1, Null: true}, {Kind: math.MaxInt}}, Key: []int{2, 1, 0}},
		{ID: 1, Columns: slices.Repeat(nulls, 1000), Key: slices.Repeat([]int{5, -7}, 1000)},
	}
}

// oddIndexes are likewise.
func oddIndexes() []api.Index {
	return []api.Index{
		{},
		{Unique: true},
		{ID: math.MinInt, Table: math.MaxInt, Columns: []int{-1}, State: math.MinInt},
		{ID: math.MaxInt, Columns: []int{0, 4}, Unique: true},
		{ID: 1, Columns: []int{math.MinInt, math.MaxInt}},
		{ID: 1, Columns: []int{0, 0, 1}, Unique: true},
		{ID: 1, Columns: slices.Repeat([]int{0, 1}, 10)},
		{ID: 1, Columns: slices.Repeat([]int{0, 1}, 10), Unique: true},
		{ID: 1, Columns: slices.Repeat([]int{0}, 10000), Unique: true},
	}
}

// oddLists are lists of values of all kinds and lengths.
func oddLists() [][]api.Value {
	l := [][]api.Value{nil, make([]api.Value, 3), make([]api.Value, 17), make([]api.Value, 10000), slices.Repeat(list(num(1)), 20), make([]api.Value, 20), {null, {Kind: -1}, {Kind: math.MaxInt}}}
	for _, row := range noHatsRows() {
		l = append(l, row)
	}
	return append(l, hatsRows()...)
}

// oddPairs are pairs of bytes of all kinds, which begin as the table's, or the index's, would.
func oddPairs(t api.Table, x api.Index) []api.Pair {
	names, _ := rows.Span(t, nil, nil)
	keys, _ := rows.Within(x, nil, nil)
	var l []api.Pair
	for _, b := range [][]byte{nil, {1}, {2}, {3}, {3, 0}, {0xff}, bytes.Repeat([]byte{1}, 3), bytes.Repeat([]byte{1}, 10000), []byte(strings.Repeat("\x03\x00\x01", 20)), []byte(five + textK), []byte(textK + five)} {
		for _, c := range [][]byte{nil, b, {1, 1}} {
			for _, head := range [][]byte{nil, names.From, keys.From} {
				l = append(l, api.Pair{Key: slices.Concat(head, b), Value: c}, api.Pair{Key: slices.Concat(keys.From, b), Value: slices.Concat(head, c)})
			}
		}
	}
	return l
}

// R1: whatever is asked, each call answers; what a false stands beside is nothing.
func TestOdd(t *testing.T) {
	tables := append(oddTables(), catalog().Tables...)
	indexes := append(oddIndexes(), catalog().Indexes...)
	for _, u := range tables {
		for _, l := range oddLists() {
			rows.Right(u, l)
			rows.Key(u, l)
			rows.Fits(u, l)
			rows.Pair(u, l)
			rows.Name(u, l)
			rows.Span(u, l, l)
			rows.Span(u, nil, l)
			for _, x := range indexes {
				rows.Entry(u, x, l)
				rows.Within(x, l, l)
			}
		}
		for _, x := range indexes {
			for _, p := range oddPairs(u, x) {
				if row, is := rows.Row(u, p); !is && len(row) != 0 {
					t.Errorf("R4: Row of %x: %v", p, row)
				}
				if name, is := rows.Owner(u, x, p); !is && len(name) != 0 {
					t.Errorf("R4: Owner of %x: %x", p, name)
				}
			}
		}
	}
}

// Promises: a row is of its own table alone, and an index of another one asks for columns that are not there.
func TestOtherTable(t *testing.T) {
	if p := rows.Entry(coats(), named(t, 4), list(num(1))); len(p.Key)+len(p.Value) != 0 {
		t.Errorf("R1: an entry of columns that are not there: %x", p)
	}
	p := rows.Entry(hats(), named(t, 4), hatsRows()[0])
	if name, is := rows.Owner(coats(), named(t, 4), p); is || len(name) != 0 {
		t.Errorf("R1: an owner of columns that are not there: %x", name)
	}
	if rows.Right(coats(), hatsRows()[0]) || rows.Fits(coats(), list(text("k"), num(5))) {
		t.Error("P13.1: another table's row")
	}
}
