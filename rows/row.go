package rows

import (
	"armoire/api"
	"armoire/fault"
	"armoire/tuple"
)

// checkRow is why that is no row of the table; nil, if it is one.
func checkRow(t api.Table, row []api.Value) error {
	if len(row) != len(t.Columns) {
		return fault.New(api.ErrForm, "row")
	}
	for i, c := range t.Columns {
		null := c.Null && row[i] == api.Value{Kind: api.Null}
		if !null && !isOf(row[i], c.Kind) {
			return fault.Wrap(fault.New(api.ErrForm, "column "+c.Name), "row")
		}
	}
	return nil
}

// checkKey is why that is no key of the table; nil, if it is one.
func checkKey(t api.Table, key []api.Value) error {
	columns, err := picked(t.Columns, t.Key)
	if err != nil {
		return fault.Wrap(err, "key")
	}
	if len(key) != len(columns) {
		return fault.New(api.ErrForm, "key")
	}
	for i, c := range columns {
		if !isOf(key[i], c.Kind) {
			return fault.Wrap(fault.New(api.ErrForm, "column "+c.Name), "key")
		}
	}
	return nil
}

// isOf: is that a right value of the kind?
func isOf(v api.Value, kind int) bool {
	return tuple.Right(v) && v.Kind == kind
}

// keyOf is the key of a row.
func keyOf(t api.Table, row []api.Value) ([]api.Value, error) {
	if err := checkRow(t, row); err != nil {
		return nil, err
	}
	key, err := picked(row, t.Key)
	return key, fault.Wrap(err, "key")
}

// nameOf is the name of a key.
func nameOf(t api.Table, key []api.Value) ([]byte, error) {
	if err := checkKey(t, key); err != nil {
		return nil, err
	}
	name, err := behind(head(rowMark, t.ID), key)
	return name, fault.Wrap(err, "name")
}

// pairOf is the pair of a row.
func pairOf(t api.Table, row []api.Value) (api.Pair, error) {
	key, err := keyOf(t, row)
	if err != nil {
		return api.Pair{}, err
	}
	name, err := nameOf(t, key)
	if err != nil {
		return api.Pair{}, err
	}
	value, err := behind(nil, row)
	if err != nil {
		return api.Pair{}, fault.Wrap(err, "row")
	}
	return api.Pair{Key: name, Value: value}, nil
}

// rowOf is the row whose pair p is.
func rowOf(t api.Table, p api.Pair) ([]api.Value, error) {
	row, err := valuesBehind(nil, p.Value)
	if err != nil {
		return nil, fault.Wrap(err, "row")
	}
	own, err := pairOf(t, row)
	if err != nil {
		return nil, err
	}
	if !samePair(own, p) {
		return nil, fault.New(api.ErrForm, "name")
	}
	return row, nil
}

// picked is what stands at these places of a list.
func picked[T any](l []T, places []int) ([]T, error) {
	var out []T
	for _, at := range places {
		if at < 0 || at >= len(l) {
			return nil, fault.New(api.ErrForm, "place")
		}
		out = append(out, l[at])
	}
	return out, nil
}
