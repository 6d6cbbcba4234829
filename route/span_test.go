package route_test

import (
	"bytes"
	"slices"
	"strings"
	"testing"

	"armoire/api"
	"armoire/route"
)

// span is the keys from from on, below to.
func span(from, to string) api.Span { return api.Span{From: []byte(from), To: []byte(to)} }

// sameSpan: are two spans the same?
func sameSpan(a, b api.Span) bool { return bytes.Equal(a.From, b.From) && bytes.Equal(a.To, b.To) }

// P14.2: the groups of spans, at all edges.
func TestOver(t *testing.T) {
	for _, x := range []struct {
		from, to string
		groups   []int
	}{
		{"", "", []int{1, 2, 3, 4, 5}},
		{"", "r", nil},
		{"", "r\x00", []int{1, 2}},
		{"q", "q\xff", nil},
		{"q\xff", "r", nil},
		{"q", "s", []int{1, 2}},
		{"r", "r", nil},
		{"r", "r\x00", []int{1, 2}},
		{"r", "s", []int{1, 2}},
		{"r", "x", []int{1, 2}},
		{"r", "x\x00", []int{1, 2, 3}},
		{"r", "", []int{1, 2, 3, 4, 5}},
		{"rb", "ra", nil},
		{"r\xff\xff", "r\xff\xff\x00", []int{1, 2}},
		{"r\xff\xff", "xe", []int{1, 2, 3, 5}},
		{"s", "x", nil},
		{"s", "", []int{3, 4, 5}},
		{"s", "r", nil},
		{"w\xff", "x", nil},
		{"w\xff", "x\x00", []int{3}},
		{"x", "x", nil},
		{"x", "x\x00", []int{3}},
		{"x", "xd", []int{3}},
		{"x", "xd\x00", []int{3, 5}},
		{"x", "xm", []int{3, 5}},
		{"x", "xm\x00", []int{3, 4, 5}},
		{"x", "y", []int{3, 4, 5}},
		{"xc\xff", "xd", []int{3}},
		{"xd", "xd", nil},
		{"xd", "xd\x00", []int{5}},
		{"xd", "xm", []int{5}},
		{"xe", "xf", []int{5}},
		{"xe", "xz", []int{4, 5}},
		{"xl\xff", "xm", []int{5}},
		{"xm", "", []int{4}},
		{"xm", "xd", nil},
		{"x\xff\xff", "y", []int{4}},
		{"x\xff\xff", "\xff", []int{4}},
		{"x\xff\xff", "x\xff\xff", nil},
		{"y", "", nil},
		{"y", "\xff", nil},
		{"\xff", "", nil},
		{"\xff", "r", nil},
	} {
		for what, r := range map[string]api.Routes{"three": three(), "moving": moving()} {
			if l := route.Over(r, span(x.from, x.to)); !slices.Equal(l, x.groups) {
				t.Errorf("P14.2: %s: Over %q to %q: %v; want %v", what, x.from, x.to, l, x.groups)
			}
		}
	}
	if l := route.Over(full(), api.Span{}); !slices.Equal(l, []int{1, 2, 3, 4, 5, 6, 7, 8}) {
		t.Errorf("P14.2: Over all of as many as may be: %v", l)
	}
}

// P14.2: what a group owns: none but groups of Spans own something.
func TestOwned(t *testing.T) {
	want := map[int]api.Span{3: span("x", "xd"), 5: span("xd", "xm"), 4: span("xm", "y")}
	for what, r := range map[string]api.Routes{"three": three(), "moving": moving()} {
		for _, group := range append(oddGroups, 1, 2, 3, 4, 5, 6) {
			if s := route.Owned(r, group); !sameSpan(s, want[group]) {
				t.Errorf("P14.2: %s: %d owns %q to %q", what, group, s.From, s.To)
			}
		}
	}
	one, _ := route.New(4, 1)
	if s := route.Owned(one, 5); !sameSpan(s, span("x", "y")) {
		t.Errorf("P14.2: the only one owns %q to %q", s.From, s.To)
	}
	long := "x" + strings.Repeat("\xff", api.MaxKey-1)
	r := api.Routes{Base: 1, Spans: []api.Owner{owner(2, "x"), owner(3, long)}}
	if s := route.Owned(r, 3); !route.Right(r) || !sameSpan(s, span(long, "y")) {
		t.Errorf("P14.2: the last one of all owns %q to %q", s.From, s.To)
	}
}

// P14.2: the part of a span, of base groups and of groups of Spans.
func TestPart(t *testing.T) {
	for _, x := range []struct {
		group    int
		from, to string
		part     api.Span
	}{
		{1, "", "", span("r", "s")},
		{2, "", "", span("r", "s")},
		{1, "a", "z", span("r", "s")},
		{2, "ra", "rb", span("ra", "rb")},
		{1, "ra", "", span("ra", "s")},
		{1, "ra", "s\x00", span("ra", "s")},
		{1, "", "r\x00", span("r", "r\x00")},
		{1, "q", "r\xff", span("r", "r\xff")},
		{1, "r\xff", "x", span("r\xff", "s")},
		{3, "", "", span("x", "xd")},
		{3, "ra", "xa", span("x", "xa")},
		{3, "xa", "xz", span("xa", "xd")},
		{5, "xb", "xf", span("xd", "xf")},
		{5, "x", "y", span("xd", "xm")},
		{5, "xe", "xf", span("xe", "xf")},
		{5, "xd", "xd\x00", span("xd", "xd\x00")},
		{4, "", "", span("xm", "y")},
		{4, "xz", "", span("xz", "y")},
		{4, "xz", "\xff", span("xz", "y")},
		{4, "x\xff", "y", span("x\xff", "y")},
	} {
		for what, r := range map[string]api.Routes{"three": three(), "moving": moving()} {
			s, is := route.Part(r, x.group, span(x.from, x.to))
			if !is || !sameSpan(s, x.part) {
				t.Errorf("P14.2: %s: the part of %d of %q to %q: %q to %q, %v", what, x.group, x.from, x.to, s.From, s.To, is)
			}
		}
	}
}

// P14.2: where there are no keys, or there is no such group, there is no part.
func TestNoPart(t *testing.T) {
	for group, spans := range map[int][]api.Span{
		1: {span("", "r"), span("s", ""), span("x", "y"), span("rb", "ra"), span("ra", "ra"), span("s", "r"), span("r", "r")},
		2: {span("", "q"), span("s", "t"), span("\xff", "")},
		3: {span("", "x"), span("xd", ""), span("xd", "xe"), span("xb", "xa"), span("r", "s"), span("x", "x")},
		5: {span("", "xd"), span("xm", ""), span("xf", "xe"), span("xe", "xe"), span("x", "xd")},
		4: {span("", "xm"), span("y", ""), span("xz", "xn"), span("r", "x"), span("y", "xm")},
		6: {span("", ""), span("x", "y"), span("r", "s")},
	} {
		for _, s := range spans {
			if p, is := route.Part(three(), group, s); is || !sameSpan(p, api.Span{}) {
				t.Errorf("P14.2: the part of %d of %q to %q: %q to %q, %v", group, s.From, s.To, p.From, p.To, is)
			}
		}
	}
	for _, group := range oddGroups {
		for _, s := range []api.Span{{}, span("r", "s"), span("x", "y")} {
			if p, is := route.Part(three(), group, s); is || !sameSpan(p, api.Span{}) {
				t.Errorf("P14.2: there is no group %d, but its part is %q to %q, %v", group, p.From, p.To, is)
			}
		}
	}
}
