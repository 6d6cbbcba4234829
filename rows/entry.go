package rows

import (
	"slices"

	"armoire/api"
	"armoire/fault"
)

// entryOf is the entry of a row.
func entryOf(t api.Table, x api.Index, row []api.Value) (api.Pair, error) {
	key, err := keyOf(t, row)
	if err != nil {
		return api.Pair{}, err
	}
	values, err := picked(row, x.Columns)
	if err != nil {
		return api.Pair{}, fault.Wrap(err, "entry")
	}
	var name []byte
	if x.Unique && !slices.Contains(values, api.Value{Kind: api.Null}) {
		name, err = nameOf(t, key) // in the value, so that two rows with these values have one key
	} else {
		values = append(values, key...)
	}
	if err != nil {
		return api.Pair{}, err
	}
	b, err := behind(head(entryMark, x.ID), values)
	if err != nil {
		return api.Pair{}, fault.Wrap(err, "entry")
	}
	return api.Pair{Key: b, Value: name}, nil
}

// ownerOf is the name of the row whose entry p is.
func ownerOf(t api.Table, x api.Index, p api.Pair) ([]byte, error) {
	values, err := valuesOf(t, x, p)
	if err != nil {
		return nil, fault.Wrap(err, "entry")
	}
	row, err := rowWith(t, slices.Concat(x.Columns, t.Key), values)
	if err != nil {
		return nil, fault.Wrap(err, "entry")
	}
	// If p is some row's entry, it is this one's, too: what it does not tell plays no part in it.
	own, err := entryOf(t, x, row)
	if err != nil {
		return nil, err
	}
	if !samePair(own, p) {
		return nil, fault.New(api.ErrForm, "entry")
	}
	its, err := pairOf(t, row)
	return its.Key, err
}

// valuesOf is what an entry tells, wherever it does: the values that it is of, and behind them those of the key.
func valuesOf(t api.Table, x api.Index, p api.Pair) ([]api.Value, error) {
	values, err := valuesBehind(head(entryMark, x.ID), p.Key)
	if err != nil || len(p.Value) == 0 {
		return values, err
	}
	key, err := valuesBehind(head(rowMark, t.ID), p.Value)
	if err != nil {
		return nil, err
	}
	return slices.Concat(values, key), nil
}

// rowWith has these values at these places, and elsewhere some that each column may have. Whether one place has two values is not asked here.
func rowWith(t api.Table, places []int, values []api.Value) ([]api.Value, error) {
	if len(values) != len(places) {
		return nil, fault.New(api.ErrForm, "values")
	}
	var row []api.Value
	for _, c := range t.Columns {
		row = append(row, api.Value{Kind: c.Kind})
	}
	for i, at := range places {
		if at < 0 || at >= len(row) {
			return nil, fault.New(api.ErrForm, "place")
		}
		row[at] = values[i]
	}
	return row, nil
}
