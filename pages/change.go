package pages

import (
	"slices"

	"armoire/api"
)

// least is how many keys a page has at least, unless it is alone.
const least = api.PageSize / 2

// change lays pairs into the place of those between two spots. What is left on the pages there is laid anew; where that is too little for a page, one that stands beside goes with it.
func (m *Map) change(from, to spot, with ...api.Pair) {
	list := slices.Concat(ahead(m.pages, from), with, behind(m.pages, to))
	first, end := from.page, min(to.page+1, len(m.pages))
	switch {
	case len(list) >= least:
	case first > 0:
		first--
		list = slices.Concat(m.pages[first], list)
	case end < len(m.pages):
		list = slices.Concat(list, m.pages[end])
		end++
	}
	m.pages = slices.Replace(m.pages, first, end, laid(list)...)
}

// laid is a list of pairs on pages: in halves, if it is too long for one; change never has more than two hold.
func laid(list []api.Pair) [][]api.Pair {
	n := len(list)
	switch {
	case n == 0:
		return nil
	case n <= api.PageSize:
		return [][]api.Pair{list}
	}
	return [][]api.Pair{list[:n/2], list[n/2:]}
}
