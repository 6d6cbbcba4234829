package rows

import (
	"bytes"
	"slices"

	"armoire/api"
	"armoire/fault"
	"armoire/tuple"
)

// What a key begins with: a row's, and an entry's. Neither is ff, so that a head has an end.
const (
	rowMark   = 'r'
	entryMark = 'x'
)

// head is what all keys of the table, or of the index, of that ID begin with.
func head(mark byte, id int) []byte {
	b, _ := tuple.Enc([]api.Value{{Kind: api.Int, I: int64(id)}}) // one number is never refused
	return slices.Concat([]byte{mark}, b)
}

// behind is the head, and behind it the values' bytes.
func behind(head []byte, l []api.Value) ([]byte, error) {
	b, e := tuple.Enc(l)
	if e != api.OK { // too many of them is a form that may not be, too
		return nil, fault.New(api.ErrForm, "values")
	}
	return slices.Concat(head, b), nil
}

// valuesBehind are the values whose bytes stand behind the head in b.
func valuesBehind(head, b []byte) ([]api.Value, error) {
	rest, is := bytes.CutPrefix(b, head)
	if !is {
		return nil, fault.New(api.ErrForm, "head")
	}
	l, _, e := tuple.Dec(rest)
	return l, fault.New(e, "bytes")
}

// span is all behind the head from from on, below to.
func span(head []byte, from, to []api.Value) (api.Span, error) {
	low, err := behind(head, from)
	if err != nil {
		return api.Span{}, fault.Wrap(err, "from")
	}
	if len(to) == 0 {
		return api.Span{From: low, To: tuple.End(head)}, nil
	}
	high, err := behind(head, to)
	if err != nil {
		return api.Span{}, fault.Wrap(err, "to")
	}
	return api.Span{From: low, To: high}, nil
}

// samePair: are they the same, but for their Versions?
func samePair(p, q api.Pair) bool {
	return bytes.Equal(p.Key, q.Key) && bytes.Equal(p.Value, q.Value)
}
