package pages_test

import (
	"math/bits"
	"testing"

	"armoire/api"
	"armoire/pages"
)

// right: the pages are as they have to be.
func right(t *testing.T, m *pages.Map) {
	t.Helper()
	n, sizes := 0, m.Sizes()
	for _, size := range sizes {
		if size < 1 || size > api.PageSize || len(sizes) > 1 && size < api.PageSize/2 {
			t.Fatalf("P4.3: pages of %v", sizes)
		}
		n += size
	}
	if n != m.Len() {
		t.Fatalf("P4.3: %v are %d, but there are %d", sizes, n, m.Len())
	}
}

// letter: the key of a number.
func letter(i int) string { return string([]byte{'k', byte(i)}) }

// ways: orders in which n keys may come, or go.
var ways = []func(i, n int) int{
	func(i, n int) int { return i },
	func(i, n int) int { return n - 1 - i },
	func(i, n int) int { // from the middle on, to both sides
		if i%2 == 0 {
			return n/2 + i/2
		}
		return n/2 - 1 - i/2
	},
	func(i, n int) int { // from both ends on, to the middle
		if i%2 == 0 {
			return i / 2
		}
		return n - 1 - i/2
	},
}

func TestSizesOfFew(t *testing.T) {
	m := pages.New()
	if got := m.Sizes(); len(got) != 0 {
		t.Errorf("P4.3: a new map has pages of %v", got)
	}
	for n := 1; n <= api.PageSize; n++ {
		m.Put(pair(letter(n)))
		right(t, m)
	}
	m.Put(pair(letter(0)))
	right(t, m)
	if got := m.Sizes(); len(got) < 2 {
		t.Errorf("P4.3: %d keys are on pages of %v", m.Len(), got)
	}
	m.Take(api.Span{})
	if got := m.Sizes(); len(got) != 0 {
		t.Errorf("P4.3: behind Take of all: pages of %v", got)
	}
}

// P4.3: behind each Put and each Drop, in whatever order they come.
func TestSizesComeAndGo(t *testing.T) {
	for n := range 60 {
		for _, come := range ways {
			m := pages.New()
			for i := range n {
				m.Put(pair(letter(come(i, n))))
				right(t, m)
			}
			if m.Len() != n {
				t.Fatalf("P4.1: %d of %d keys are there", m.Len(), n)
			}
			for _, leave := range ways {
				f := m.Fork()
				for i := range n {
					if !f.Drop([]byte(letter(leave(i, n)))) {
						t.Fatalf("P4.1: Drop of %d, of %d: it was there", leave(i, n), n)
					}
					right(t, f)
				}
				if f.Len() != 0 {
					t.Fatalf("P4.1: %d of %d keys are left", f.Len(), n)
				}
			}
		}
	}
}

// P4.3: behind each Take, wherever it begins and ends.
func TestSizesBehindTake(t *testing.T) {
	const most = 5 * api.PageSize
	for n := range most {
		for _, come := range ways {
			m := pages.New()
			for i := range n {
				m.Put(pair(letter(come(i, n))))
			}
			for from := range n + 1 {
				for to := from; to <= n; to++ {
					f := m.Fork()
					got := f.Take(span(letter(from), letter(to)))
					if len(got) != to-from || f.Len() != n-len(got) {
						t.Fatalf("P4.2: Take from %d below %d, of %d: %d; left are %d", from, to, n, len(got), f.Len())
					}
					right(t, f)
				}
			}
		}
	}
}

// P4.3: of pages that are as full as they may be, and as empty, as well as those between.
func TestSizesOfAllKinds(t *testing.T) {
	seen := make(map[int]int)
	for set := range 1 << 14 { // which keys of 14 go again
		m := pages.New()
		for i := range 14 {
			m.Put(pair(letter(i)))
		}
		for i := range 14 {
			if set>>i&1 != 0 {
				m.Drop([]byte(letter(i)))
			}
		}
		right(t, m)
		if m.Len() != 14-bits.OnesCount(uint(set)) {
			t.Fatalf("P4.1: %d are left behind Drop of %b", m.Len(), set)
		}
		for _, size := range m.Sizes() {
			seen[size]++
		}
	}
	if seen[api.PageSize/2] == 0 || seen[api.PageSize] == 0 {
		t.Errorf("P4.3: the bounds were not come to: %v", seen)
	}
}
