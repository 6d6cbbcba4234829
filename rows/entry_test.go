package rows_test

import (
	"bytes"
	"math"
	"slices"
	"strings"
	"testing"

	"armoire/api"
	"armoire/rows"
)

// The bytes of some values, and of heads.
const (
	head4 = "x\x02\x80\x00\x00\x00\x00\x00\x00\x04"
	head5 = "x\x02\x80\x00\x00\x00\x00\x00\x00\x05"
	head8 = "x\x02\x80\x00\x00\x00\x00\x00\x00\x08"
	five  = "\x02\x80\x00\x00\x00\x00\x00\x00\x05"
	seven = "\x02\x80\x00\x00\x00\x00\x00\x00\x07"
	textK = "\x03k\x00\x01"
	textX = "\x03x\x00\x01"
	rowK5 = "r\x02\x80\x00\x00\x00\x00\x00\x00\x03" + textK + five
)

// P13.3: the bytes of entries.
func TestEntryBytes(t *testing.T) {
	seven7 := list(num(5), text("k"), num(7), null)
	none := list(num(5), text("k"), null, text("x"))
	whole := list(num(5), text("k"), num(7), text("x"))
	for _, e := range []struct {
		id         int
		row        []api.Value
		key, value string
	}{
		{4, seven7, head4 + seven + five + textK + five, ""},
		{4, none, head4 + "\x01" + five + textK + five, ""},
		{5, seven7, head5 + seven + five, rowK5},
		{5, none, head5 + "\x01" + five + textK + five, ""},
		{8, seven7, head8 + five + textK + seven + "\x01" + textK + five, ""}, // the last of its columns is Null
		{8, whole, head8 + five + textK + seven + textX, rowK5},
	} {
		p := rows.Entry(hats(), named(t, e.id), e.row)
		if string(p.Key) != e.key || string(p.Value) != e.value || p.Version != 0 {
			t.Errorf("P13.3: the entry of %v in %d: %x, %x, %d", e.row, e.id, p.Key, p.Value, p.Version)
		}
	}
}

// P13.3: what is no row has no entry, and no index's state, name, or place in a catalog changes one.
func TestNoEntry(t *testing.T) {
	for what, row := range noHatsRows() {
		for _, id := range []int{4, 5, 6, 7, 8} {
			if p := rows.Entry(hats(), named(t, id), row); len(p.Key)+len(p.Value)+p.Version != 0 {
				t.Errorf("P13.3: Entry in %d of %s: %x, %x", id, what, p.Key, p.Value)
			}
		}
	}
	row := hatsRows()[2]
	want := rows.Entry(hats(), named(t, 5), row)
	for state := api.DeleteOnly; state <= api.Removing; state++ {
		y := named(t, 5)
		y.State, y.Name, y.Bad = state, "other", state > 4
		p := rows.Entry(hats(), y, row)
		name, is := rows.Owner(hats(), y, p)
		if !bytes.Equal(p.Key, want.Key) || !bytes.Equal(p.Value, want.Value) || !is || string(name) != rowK5 {
			t.Errorf("P13.3: in the state %d: %x, %x, %x, %v", state, p.Key, p.Value, name, is)
		}
	}
}

// P13.3: an entry's owner, in each index, whatever its Version is.
func TestOwner(t *testing.T) {
	for _, row := range hatsRows() {
		want := rows.Pair(hats(), row).Key
		for _, id := range []int{4, 5, 6, 7, 8} {
			for _, version := range []int{0, 1, -1, math.MaxInt} {
				p := rows.Entry(hats(), named(t, id), row)
				p.Version = version
				if name, is := rows.Owner(hats(), named(t, id), p); !is || !bytes.Equal(name, want) {
					t.Errorf("P13.3: the owner of the entry of %v in %d, with the Version %d: %x, %v", row, id, version, name, is)
				}
			}
		}
	}
}

// noEntries are entries of no row of hats, by what is wrong with them, and their indexes.
func noEntries() map[string]struct {
	id int
	p  api.Pair
} {
	type bad = struct {
		id int
		p  api.Pair
	}
	of := func(id int, key, value string) bad {
		return bad{id, api.Pair{Key: []byte(key), Value: []byte(value)}}
	}
	six := "\x02\x80\x00\x00\x00\x00\x00\x00\x06"
	rowHead := rowK5[:10]
	return map[string]bad{
		"a zero one":                                {4, api.Pair{}},
		"a zero one, unique":                        {5, api.Pair{}},
		"its head alone":                            of(4, head4, ""),
		"its head alone, with a name":               of(5, head5, rowK5),
		"half a head":                               of(4, head4[:9], ""),
		"another index's head":                      of(4, head5+seven+five+textK+five, ""),
		"a row's mark":                              of(4, "r"+head4[1:]+seven+five+textK+five, ""),
		"a row's pair":                              of(4, rowK5, five+textK+"\x01\x01"),
		"a value where there is none":               of(4, head4+seven+five+textK+five, "x"),
		"a name where there is none":                of(4, head4+seven+five+textK+five, rowK5),
		"as a unique one has it":                    of(4, head4+seven+five, rowK5),
		"without a key":                             of(4, head4+seven+five, ""),
		"half a key":                                of(4, head4+seven+five+textK, ""),
		"a key and more":                            of(4, head4+seven+five+textK+five+"\x01", ""),
		"a key twice":                               of(4, head4+seven+five+textK+five+textK+five, ""),
		"a number that ends early":                  of(4, head4+seven+five+textK+five[:5], ""),
		"other bytes":                               of(4, head4+seven+five+textK+"\x04", ""),
		"another size in its key":                   of(4, head4+seven+five+textK+six, ""),
		"another size ahead of its key":             of(4, head4+seven+six+textK+five, ""),
		"a price of Text":                           of(4, head4+textK+five+textK+five, ""),
		"a Null size":                               of(4, head4+seven+"\x01"+textK+five, ""),
		"a Null size in both":                       of(4, head4+seven+"\x01"+textK+"\x01", ""),
		"a Null name":                               of(4, head4+seven+five+"\x01"+five, ""),
		"a key in the columns' order":               of(4, head4+seven+five+five+textK, ""),
		"more than 16 values":                       of(4, head4+strings.Repeat("\x01", 17), ""),
		"unique, without Null, and without a value": of(5, head5+seven+five, ""),
		"unique, without Null, with its key":        of(5, head5+seven+five+textK+five, ""),
		"unique, with both":                         of(5, head5+seven+five+textK+five, rowK5),
		"unique, with Null, and a name":             of(5, head5+"\x01"+five, rowK5),
		"unique, with Null, its key, and a name":    of(5, head5+"\x01"+five+textK+five, rowK5),
		"unique, with Null, without its key":        of(5, head5+"\x01"+five, ""),
		"unique, with Null, and another size":       of(5, head5+"\x01"+five+textK+six, ""),
		"unique, and another size in the name":      of(5, head5+seven+six, rowK5),
		"unique, and no head in the name":           of(5, head5+seven+five, rowK5[1:]),
		"unique, and another table's name":          of(5, head5+seven+five, rowK5[:9]+"\x04"+textK+five),
		"unique, and an entry for a name":           of(5, head5+seven+five, head5+textK+five),
		"unique, and a name that ends early":        of(5, head5+seven+five, rowK5[:20]),
		"unique, and half a name":                   of(5, head5+seven+five, rowHead+textK),
		"unique, and a name without a key":          of(5, head5+seven+five, rowHead),
		"unique, and a name and more":               of(5, head5+seven+five, rowK5+"\x01"),
		"unique, and a name of other kinds":         of(5, head5+seven+five, rowHead+five+textK),
		"unique, and one value too many":            of(5, head5+seven+five+textK, rowHead+five),
		"unique, and one value too few":             of(5, head5+seven, rowHead+five+textK+five),
		"unique, of all, and another name":          of(8, head8+five+textX+seven+textX, rowK5),
	}
}

// P13.3: what can be no row's entry has no owner.
func TestNoOwner(t *testing.T) {
	for what, bad := range noEntries() {
		if name, is := rows.Owner(hats(), named(t, bad.id), bad.p); is || len(name) != 0 {
			t.Errorf("P13.3: Owner, in %d, of %s: %x, %v", bad.id, what, name, is)
		}
	}
	for _, y := range catalog().Indexes { // each entry is of its own index alone
		for _, z := range catalog().Indexes {
			if y.Table == 3 && z.Table == 3 && y.ID != z.ID {
				p := rows.Entry(hats(), y, hatsRows()[2])
				if name, is := rows.Owner(hats(), z, p); is || len(name) != 0 {
					t.Errorf("P13.3: the entry of %d has an owner in %d: %x", y.ID, z.ID, name)
				}
			}
		}
	}
}

// P13.3: the longest entries may be keys and values of a shard, and have owners.
func TestLongest(t *testing.T) {
	var row []api.Value
	for range api.MaxColumns {
		row = append(row, text(strings.Repeat("\x00", api.MaxText)))
	}
	name := rows.Pair(shoes(), row).Key
	for _, id := range []int{9, 256} {
		y := named(t, id)
		p := rows.Entry(shoes(), y, row)
		got, is := rows.Owner(shoes(), y, p)
		if !is || !bytes.Equal(got, name) || len(p.Key) > api.MaxKey || len(p.Value) > api.MaxValue || (len(p.Value) > 0) != y.Unique {
			t.Errorf("P13.3: the longest entry in %d: %d bytes, %d bytes, %v", id, len(p.Key), len(p.Value), is)
		}
	}
	p := rows.Pair(shoes(), row)
	got, is := rows.Row(shoes(), p)
	if !is || !slices.Equal(got, row) || len(p.Key) > api.MaxKey || len(p.Value) > api.MaxValue {
		t.Errorf("P13.1: the longest row: %d bytes, %d bytes, %v", len(p.Key), len(p.Value), is)
	}
}
