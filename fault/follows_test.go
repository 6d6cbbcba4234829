package fault_test

import (
	"errors"
	"fmt"
	"runtime/debug"
	"slices"
	"strings"
	"testing"

	"armoire/api"
	"armoire/fault"
)

// However often it is wrapped, its code stays, and errors.Is and errors.As find it.
func TestStays(t *testing.T) {
	for _, code := range codes() {
		e := fault.Wrap(code, "0")
		text := "0: " + code.Error()
		places := []string{"0"}
		for depth := 1; depth <= 16; depth++ {
			where := fmt.Sprint(depth)
			e = fault.Wrap(e, where)
			text = where + ": " + text
			places = slices.Insert(places, 0, where)
			if depth%5 == 0 {
				e = fmt.Errorf("far: %w", e)
				text = "far: " + text
			}
			sameCode(t, e, code)
			if e.Error() != text {
				t.Fatalf("P2.1: at depth %d it tells %q, want %q", depth, e, text)
			}
			if got := fault.Where(e); !slices.Equal(got, places) {
				t.Fatalf("P2.2: at depth %d: Where: %q, want %q", depth, got, places)
			}
		}
	}
}

// sameCode: e has the code, whoever asks for it.
func sameCode(t *testing.T, e error, code api.Errno) {
	t.Helper()
	if got := fault.Code(e); got != code {
		t.Fatalf("What follows: Code(%v) = %d, want %d", e, int(got), int(code))
	}
	if !errors.Is(e, code) || !fault.Is(e, code) {
		t.Fatalf("What follows: errors.Is and Is of %v and %d: %v, %v", e, int(code), errors.Is(e, code), fault.Is(e, code))
	}
	if other := code ^ 1; errors.Is(e, other) || fault.Is(e, other) {
		t.Fatalf("What follows: Is finds %d in %v", int(other), e)
	}
	var got api.Errno
	var f *fault.Fault
	if !errors.As(e, &got) || got != code || !errors.As(e, &f) || !f.Is(code) {
		t.Fatalf("What follows: errors.As of %v: %d, want %d", e, int(got), int(code))
	}
}

// The first fault along the causes is the one that errors.As finds.
func TestFound(t *testing.T) {
	inner := fault.New(api.ErrWait, "inner")
	outer := fault.Wrap(inner, "outer")
	var f *fault.Fault
	if !errors.As(fmt.Errorf("far: %w", outer), &f) || error(f) != outer {
		t.Errorf("What follows: errors.As finds %v", f)
	}
	if !errors.Is(outer, inner) || errors.Is(inner, outer) || !errors.Is(fault.Wrap(plain, "a"), plain) {
		t.Error("What follows: errors.Is of a cause")
	}
	if !errors.Is(fault.Wrap(plain, "a"), api.ErrBad) {
		t.Error("What follows: a fault without a code is ErrBad")
	}
}

// Very often, too: nothing is lost, and no stack grows with it.
func TestVeryOften(t *testing.T) {
	const often = 50000
	defer debug.SetMaxStack(debug.SetMaxStack(1 << 20))
	e := fault.New(api.ErrLocked, "shard")
	for range often {
		e = fault.Wrap(e, "t")
	}
	if fault.Code(e) != api.ErrLocked || !fault.Is(e, api.ErrLocked) || !errors.Is(e, api.ErrLocked) {
		t.Error("What follows: the code is lost")
	}
	if want := strings.Repeat("t: ", often) + "shard: locked"; e.Error() != want {
		t.Errorf("P2.1: it tells %d bytes, want %d", len(e.Error()), len(want))
	}
	l := fault.Where(e)
	if len(l) != often+1 || l[0] != "t" || l[often] != "shard" {
		t.Errorf("P2.2: %d faults say where, want %d", len(l), often+1)
	}
}
