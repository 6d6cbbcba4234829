package rows_test

import (
	"bytes"
	"math"
	"slices"
	"strings"
	"testing"

	"armoire/api"
	"armoire/rows"
	"armoire/schema"
)

func num(i int64) api.Value   { return api.Value{Kind: api.Int, I: i} }
func text(s string) api.Value { return api.Value{Kind: api.Text, S: s} }

// null is the value that a column may have, or not.
var null = api.Value{Kind: api.Null}

// list is a list of values; a short way to write one.
func list(l ...api.Value) []api.Value { return l }

// hats has a key of a text and a number, which are not in its columns' order, and two columns that may be Null.
func hats() api.Table {
	return api.Table{ID: 3, Name: "hats", Columns: []api.Column{{Name: "size", Kind: api.Int}, {Name: "name", Kind: api.Text}, {Name: "price", Kind: api.Int, Null: true}, {Name: "note", Kind: api.Text, Null: true}}, Key: []int{1, 0}}
}

// coats has one column, and the last ID but one.
func coats() api.Table {
	return api.Table{ID: 1<<30 - 2, Name: "coats", Columns: []api.Column{{Name: "n", Kind: api.Int}}, Key: []int{0}}
}

// shoes has as many columns as may be, all of texts, all in its key.
func shoes() api.Table {
	t := api.Table{ID: 255, Name: "shoes"}
	for i := range api.MaxColumns {
		t.Columns = append(t.Columns, api.Column{Name: string(rune('a' + i)), Kind: api.Text})
		t.Key = append([]int{i}, t.Key...)
	}
	return t
}

// catalog has these tables, and indexes of all kinds over them.
func catalog() api.Catalog {
	c := api.Catalog{Next: 1 << 30, Tables: []api.Table{hats(), shoes(), coats()}}
	add := func(id, table int, unique bool, columns ...int) {
		c.Indexes = append(c.Indexes, api.Index{ID: id, Table: table, Name: "i" + strings.Repeat("i", len(c.Indexes)), Columns: columns, Unique: unique, State: api.Public})
	}
	add(4, 3, false, 2, 0)
	add(5, 3, true, 2, 0)
	add(6, 3, false, 3)
	add(7, 3, true, 3)
	add(8, 3, true, 0, 1, 2, 3)
	add(9, 255, false, 0, 1, 2, 3, 4, 5)
	add(256, 255, true, 5, 4, 3, 2, 1, 0)
	add(1<<30-1, 1<<30-2, true, 0)
	return c
}

// named is the index of the catalog with that ID.
func named(t *testing.T, id int) api.Index {
	t.Helper()
	for _, x := range catalog().Indexes {
		if x.ID == id {
			return x
		}
	}
	t.Fatalf("there is no index %d", id)
	return api.Index{}
}

func TestCatalogIsRight(t *testing.T) {
	if !schema.Right(catalog()) {
		t.Error("the tests ask of a catalog that is not right")
	}
}

// hatsRows are rows of hats.
func hatsRows() [][]api.Value {
	long := strings.Repeat("\xff", api.MaxText)
	return [][]api.Value{
		{num(5), text("k"), null, text("x")},
		{num(6), text("k"), null, text("x")},
		{num(5), text("k"), num(7), null},
		{num(5), text("j"), num(7), text("")},
		{num(5), text("k\x00"), null, null},
		{num(0), text(""), num(0), text("")},
		{num(math.MinInt64), text(long), num(math.MaxInt64), text(strings.Repeat("\x00", api.MaxText))},
		{num(math.MaxInt64), text("\x00\xff\x01"), num(math.MinInt64), text("\x00\x01")},
	}
}

// noHatsRows are none, by what is wrong with them.
func noHatsRows() map[string][]api.Value {
	long := strings.Repeat("a", api.MaxText+1)
	return map[string][]api.Value{
		"nothing":                nil,
		"its key alone":          {text("k"), num(5)},
		"one too few":            {num(5), text("k"), null},
		"one too many":           {num(5), text("k"), null, text("x"), null},
		"twice a row":            {num(5), text("k"), null, null, num(5), text("k"), null, null},
		"a Null size":            {null, text("k"), null, null},
		"a Null name":            {num(5), null, null, null},
		"all Null":               {null, null, null, null},
		"a size of Text":         {text("5"), text("k"), null, null},
		"a name of Int":          {num(5), num(5), null, null},
		"a price of Text":        {num(5), text("k"), text("7"), null},
		"a note of Int":          {num(5), text("k"), null, num(7)},
		"two that are turned":    {text("k"), num(5), null, null},
		"a size with a text":     {{Kind: api.Int, I: 5, S: "5"}, text("k"), null, null},
		"a name with a number":   {num(5), {Kind: api.Text, I: 1, S: "k"}, null, null},
		"a name that is long":    {num(5), text(long), null, null},
		"a note that is long":    {num(5), text("k"), null, text(long)},
		"a Null with a number":   {num(5), text("k"), {I: 1}, null},
		"a Null with a text":     {num(5), text("k"), null, {S: "x"}},
		"a kind too high":        {num(5), text("k"), {Kind: 3}, null},
		"a kind below 0":         {num(5), text("k"), null, {Kind: -1}},
		"a size of another kind": {{Kind: math.MaxInt, I: 5}, text("k"), null, null},
		"a wrong one at its end": {num(5), text("k"), num(7), {Kind: api.Text, I: 1}},
	}
}

// P13.1: rows, and what is none.
func TestRight(t *testing.T) {
	for _, row := range hatsRows() {
		if !rows.Right(hats(), row) {
			t.Errorf("P13.1: Right(%v): false", row)
		}
	}
	for what, row := range noHatsRows() {
		if rows.Right(hats(), row) {
			t.Errorf("P13.1: Right of %s", what)
		}
	}
	if !rows.Right(coats(), list(num(1))) || rows.Right(coats(), list(null)) || rows.Right(coats(), nil) || rows.Right(coats(), list(num(1), num(1))) {
		t.Error("P13.1: Right of a table with one column")
	}
	six := list(text("a"), text("b"), text("c"), text("d"), text("e"), text("f"))
	if !rows.Right(shoes(), six) || rows.Right(shoes(), six[:5]) || rows.Right(shoes(), append(six, text("g"))) {
		t.Error("P13.1: Right of a table with six columns")
	}
}

// P13.1: the key of a row, by the places of the table's Key; none of another one.
func TestKey(t *testing.T) {
	for _, row := range hatsRows() {
		if key := rows.Key(hats(), row); !slices.Equal(key, list(row[1], row[0])) {
			t.Errorf("P13.1: Key(%v): %v", row, key)
		}
	}
	for what, row := range noHatsRows() {
		if key := rows.Key(hats(), row); len(key) != 0 {
			t.Errorf("P13.1: Key of %s: %v", what, key)
		}
	}
	six := list(text("a"), text("b"), text("c"), text("d"), text("e"), text("f"))
	if key := rows.Key(shoes(), six); !slices.Equal(key, list(text("f"), text("e"), text("d"), text("c"), text("b"), text("a"))) {
		t.Errorf("P13.1: Key of six: %v", key)
	}
	if key := rows.Key(coats(), list(num(-1))); !slices.Equal(key, list(num(-1))) {
		t.Errorf("P13.1: Key of one: %v", key)
	}
}

// noHatsKeys are no keys of hats, by what is wrong with them.
func noHatsKeys() map[string][]api.Value {
	return map[string][]api.Value{
		"nothing":            nil,
		"a beginning":        {text("k")},
		"an end":             {num(5)},
		"one too many":       {text("k"), num(5), null},
		"twice a key":        {text("k"), num(5), text("k"), num(5)},
		"the columns' order": {num(5), text("k")},
		"a whole row":        {num(5), text("k"), null, text("x")},
		"a Null name":        {null, num(5)},
		"a Null size":        {text("k"), null},
		"two texts":          {text("k"), text("5")},
		"two numbers":        {num(5), num(5)},
		"a long name":        {text(strings.Repeat("a", api.MaxText+1)), num(5)},
		"a text with one":    {{Kind: api.Text, I: 1, S: "k"}, num(5)},
		"a number with one":  {text("k"), {Kind: api.Int, I: 5, S: "5"}},
		"another kind":       {text("k"), {Kind: 3}},
	}
}

// P13.1: keys, and what is none; Name has none of these.
func TestFits(t *testing.T) {
	for _, row := range hatsRows() {
		if key := list(row[1], row[0]); !rows.Fits(hats(), key) || len(rows.Name(hats(), key)) == 0 {
			t.Errorf("P13.1: Fits(%v): false, or it has no name", key)
		}
	}
	for what, key := range noHatsKeys() {
		if rows.Fits(hats(), key) {
			t.Errorf("P13.1: Fits of %s", what)
		}
		if name := rows.Name(hats(), key); len(name) != 0 {
			t.Errorf("P13.1: Name of %s: %x", what, name)
		}
	}
}

// P13.1: the bytes of names; the first of them is the chapter's example.
func TestName(t *testing.T) {
	one := api.Table{ID: 1, Name: "t", Columns: []api.Column{{Name: "a", Kind: api.Int}}, Key: []int{0}}
	for _, x := range []struct {
		t    api.Table
		key  []api.Value
		want string
	}{
		{one, list(num(5)), "r\x02\x80\x00\x00\x00\x00\x00\x00\x01\x02\x80\x00\x00\x00\x00\x00\x00\x05"},
		{hats(), list(text("k"), num(-1)), "r\x02\x80\x00\x00\x00\x00\x00\x00\x03\x03k\x00\x01\x02\x7f\xff\xff\xff\xff\xff\xff\xff"},
		{hats(), list(text("\x00\xff"), num(0)), "r\x02\x80\x00\x00\x00\x00\x00\x00\x03\x03\x00\xff\xff\x00\x01\x02\x80\x00\x00\x00\x00\x00\x00\x00"},
		{coats(), list(num(256)), "r\x02\x80\x00\x00\x00\x3f\xff\xff\xfe\x02\x80\x00\x00\x00\x00\x00\x01\x00"},
		{shoes(), list(text("f"), text(""), text("d"), text("c"), text("b"), text("a")), "r\x02\x80\x00\x00\x00\x00\x00\x00\xff\x03f\x00\x01\x03\x00\x01\x03d\x00\x01\x03c\x00\x01\x03b\x00\x01\x03a\x00\x01"},
	} {
		if name := rows.Name(x.t, x.key); string(name) != x.want {
			t.Errorf("P13.1: Name(%s, %v): %x; want %x", x.t.Name, x.key, name, x.want)
		}
	}
}

// P13.1: the bytes of a row's pair; a zero one of what is no row.
func TestPair(t *testing.T) {
	p := rows.Pair(hats(), list(num(5), text("k"), null, text("x")))
	if string(p.Key) != "r\x02\x80\x00\x00\x00\x00\x00\x00\x03\x03k\x00\x01\x02\x80\x00\x00\x00\x00\x00\x00\x05" || string(p.Value) != "\x02\x80\x00\x00\x00\x00\x00\x00\x05\x03k\x00\x01\x01\x03x\x00\x01" || p.Version != 0 {
		t.Errorf("P13.1: Pair: %x, %x, %d", p.Key, p.Value, p.Version)
	}
	for _, row := range hatsRows() {
		p := rows.Pair(hats(), row)
		if !bytes.Equal(p.Key, rows.Name(hats(), list(row[1], row[0]))) || p.Version != 0 {
			t.Errorf("P13.1: Pair(%v): %x, %d", row, p.Key, p.Version)
		}
	}
	for what, row := range noHatsRows() {
		if p := rows.Pair(hats(), row); len(p.Key)+len(p.Value)+p.Version != 0 {
			t.Errorf("P13.1: Pair of %s: %x, %x", what, p.Key, p.Value)
		}
	}
}

// P13.1: a pair's row, whatever its Version is.
func TestRow(t *testing.T) {
	for _, row := range hatsRows() {
		for _, version := range []int{0, 1, -1, math.MaxInt} {
			p := rows.Pair(hats(), row)
			p.Version = version
			if got, is := rows.Row(hats(), p); !is || !slices.Equal(got, row) {
				t.Errorf("P13.1: Row of %v with the Version %d: %v, %v", row, version, got, is)
			}
		}
	}
}

// P13.1: pairs that are of no row, of each kind.
func TestNoRow(t *testing.T) {
	p := rows.Pair(hats(), list(num(5), text("k"), num(7), null))
	other := rows.Pair(hats(), list(num(6), text("k"), num(7), null))
	join := func(l ...[]byte) []byte { return slices.Concat(l...) }
	nullName := "\x02\x80\x00\x00\x00\x00\x00\x00\x05\x01\x01\x01"
	for what, q := range map[string]api.Pair{
		"a zero one":               {},
		"no value":                 {Key: p.Key},
		"no key":                   {Value: p.Value},
		"another row's key":        {Key: other.Key, Value: p.Value},
		"another row's value":      {Key: p.Key, Value: other.Value},
		"a shorter key":            {Key: p.Key[:len(p.Key)-1], Value: p.Value},
		"a longer key":             {Key: join(p.Key, []byte{1}), Value: p.Value},
		"a key without its mark":   {Key: p.Key[1:], Value: p.Value},
		"a key of an index":        {Key: join([]byte("x"), p.Key[1:]), Value: p.Value},
		"another table's key":      {Key: join(p.Key[:9], []byte{4}, p.Key[10:]), Value: p.Value},
		"a value that ends early":  {Key: p.Key, Value: p.Value[:len(p.Value)-1]},
		"a value within a number":  {Key: p.Key, Value: p.Value[:len(p.Value)-3]},
		"a value that begins late": {Key: p.Key, Value: p.Value[1:]},
		"a value more":             {Key: p.Key, Value: join(p.Value, []byte{1})},
		"a value of other bytes":   {Key: p.Key, Value: join(p.Value[:len(p.Value)-1], []byte{4})},
		"a value of another kind":  {Key: p.Key, Value: join(p.Value[:len(p.Value)-1], []byte("\x02\x80\x00\x00\x00\x00\x00\x00\x05"))},
		"a value with a Null name": {Key: p.Key, Value: []byte(nullName)},
		"its name twice":           {Key: p.Key, Value: p.Key},
		"17 values":                {Key: p.Key, Value: bytes.Repeat([]byte{1}, 17)},
	} {
		if row, is := rows.Row(hats(), q); is || len(row) != 0 {
			t.Errorf("P13.1: Row of %s: %v, %v", what, row, is)
		}
	}
	if row, is := rows.Row(coats(), p); is || len(row) != 0 {
		t.Errorf("P13.1: Row of another table's pair: %v, %v", row, is)
	}
}
