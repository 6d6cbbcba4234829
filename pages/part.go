package pages

import (
	"bytes"
	"iter"
	"slices"

	"armoire/api"
)

// spot is a place on a page. The end of all pages is place 0 of the page that would come next.
type spot struct{ page, at int }

// against holds a pair's key against another key.
func against(p api.Pair, key []byte) int { return bytes.Compare(p.Key, key) }

// seek is the spot of the first pair whose key is not below this one.
func seek(pages [][]api.Pair, key []byte) spot {
	page, _ := slices.BinarySearchFunc(pages, key, func(page []api.Pair, key []byte) int {
		return against(page[len(page)-1], key)
	})
	if page == len(pages) {
		return spot{page, 0}
	}
	at, _ := slices.BinarySearchFunc(pages[page], key, against)
	return spot{page, at}
}

// find is the spot where a key is, or would be, and whether it is there.
func find(pages [][]api.Pair, key []byte) (spot, bool) {
	s := seek(pages, key)
	return s, s.page < len(pages) && against(pages[s.page][s.at], key) == 0
}

// part is where a span begins, and where it ends: there at once, if its end is ahead of its beginning.
func part(pages [][]api.Pair, s api.Span) (from, to spot) {
	from = seek(pages, s.From)
	switch {
	case len(s.To) == 0:
		return from, spot{len(pages), 0}
	case bytes.Compare(s.To, s.From) < 0:
		return from, from
	}
	return from, seek(pages, s.To)
}

// ahead is what stands on a spot's page ahead of it.
func ahead(pages [][]api.Pair, s spot) []api.Pair {
	if s.page == len(pages) {
		return nil
	}
	return pages[s.page][:s.at]
}

// behind is what stands on a spot's page from it on.
func behind(pages [][]api.Pair, s spot) []api.Pair {
	if s.page == len(pages) {
		return nil
	}
	return pages[s.page][s.at:]
}

// between is a new list of the pages from one spot up to another, without what is ahead of the one and from the other on.
func between(pages [][]api.Pair, from, to spot) [][]api.Pair {
	if from.page == to.page {
		return [][]api.Pair{ahead(pages, to)[from.at:]}
	}
	return slices.Concat([][]api.Pair{behind(pages, from)}, pages[from.page+1:to.page], [][]api.Pair{ahead(pages, to)})
}

// rising tells what stands on pages.
func rising(pages [][]api.Pair) iter.Seq[api.Pair] {
	return func(yield func(api.Pair) bool) {
		for _, page := range pages {
			for _, p := range page {
				if !yield(copied(p)) {
					return
				}
			}
		}
	}
}

// falling tells what stands on pages, from the end on.
func falling(pages [][]api.Pair) iter.Seq[api.Pair] {
	return func(yield func(api.Pair) bool) {
		for _, page := range slices.Backward(pages) {
			for _, p := range slices.Backward(page) {
				if !yield(copied(p)) {
					return
				}
			}
		}
	}
}
