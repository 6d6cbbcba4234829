package fault_test

import (
	"errors"
	"fmt"
	"math"
	"slices"
	"testing"

	"armoire/api"
	"armoire/fault"
)

// guise is an error that may be had as a code, without a cause.
type guise struct{ code api.Errno }

func (g guise) Error() string { return "guise" }

func (g guise) As(target any) bool {
	code, is := target.(*api.Errno)
	if is {
		*code = g.code
	}
	return is
}

func TestCode(t *testing.T) {
	locked := fault.New(api.ErrLocked, "shard")
	rows := []struct {
		e    error
		want api.Errno
	}{
		{nil, api.OK},
		{api.OK, api.OK},
		{api.ErrFull, api.ErrFull},
		{api.Errno(-7), -7},
		{api.Errno(99), 99},
		{plain, api.ErrBad},
		{list{"x"}, api.ErrBad},
		{fault.Wrap(plain, "a"), api.ErrBad},
		{fault.Wrap(api.OK, "a"), api.OK},
		{fault.New(99, "a"), 99},
		{locked, api.ErrLocked},
		{fault.Wrap(locked, "txn"), api.ErrLocked},
		{fmt.Errorf("far: %w", locked), api.ErrLocked},
		{fault.Wrap(fmt.Errorf("far: %w", locked), "top"), api.ErrLocked},
		{fmt.Errorf("cut: %v", locked), api.ErrBad},
		{errors.Join(plain, locked, api.ErrState), api.ErrLocked},
		{errors.Join(fault.Wrap(plain, "a"), fault.Wrap(api.ErrState, "b"), locked), api.ErrState},
		{fmt.Errorf("%w %w", fault.Wrap(locked, "deep"), api.ErrState), api.ErrLocked},
		{guise{api.ErrWait}, api.ErrWait},
		{fault.Wrap(guise{api.ErrWait}, "a"), api.ErrWait},
	}
	for _, r := range rows {
		if got := fault.Code(r.e); got != r.want {
			t.Errorf("P2.2: Code(%v) = %d, want %d", r.e, int(got), int(r.want))
		}
		for _, code := range append(codes(), -7, 99) {
			if got, want := fault.Is(r.e, code), code == r.want; got != want {
				t.Errorf("P2.2: Is(%v, %d) = %v", r.e, int(code), got)
			}
		}
	}
}

func TestWhere(t *testing.T) {
	locked := fault.New(api.ErrLocked, "shard")
	rows := []struct {
		e    error
		want []string
	}{
		{nil, nil},
		{plain, nil},
		{list{"x"}, nil},
		{api.ErrLocked, nil},
		{locked, []string{"shard"}},
		{fault.Wrap(locked, "txn"), []string{"txn", "shard"}},
		{fault.Wrap(fault.Wrap(locked, "txn"), "client"), []string{"client", "txn", "shard"}},
		{fault.Wrap(fault.Wrap(plain, "same"), "same"), []string{"same", "same"}},
		{fault.Wrap(fault.Wrap(plain, ""), "a"), []string{"a", ""}},
		{fault.Wrap(api.OK, "a"), []string{"a"}},
		{fmt.Errorf("far: %w", locked), []string{"shard"}},
		{fault.Wrap(fmt.Errorf("far: %w", fault.Wrap(locked, "txn")), "top"), []string{"top", "txn", "shard"}},
		{fault.Wrap(errors.Join(plain, locked), "top"), []string{"top", "shard"}},
		{fmt.Errorf("cut: %v", locked), nil},
	}
	for _, r := range rows {
		if got := fault.Where(r.e); !slices.Equal(got, r.want) {
			t.Errorf("P2.2: Where(%v) = %q, want %q", r.e, got, r.want)
		}
	}
}

// R3: what is handed out is new memory.
func TestWhereIsNew(t *testing.T) {
	e := fault.Wrap(fault.New(api.ErrLocked, "shard"), "txn")
	first := fault.Where(e)
	first[0], first[1] = "x", "y"
	_ = append(first, "z")
	if got := fault.Where(e); !slices.Equal(got, []string{"txn", "shard"}) {
		t.Errorf("R3: Where answers %q, after its first answer was written on", got)
	}
	if e.Error() != "txn: shard: locked" {
		t.Errorf("R3: it tells %q", e)
	}
}

func TestAgain(t *testing.T) {
	rows := [][]api.Errno{
		{api.OK},
		{api.ErrLeader, api.ErrWait, api.ErrDown},
		{api.ErrLocked, api.ErrChanged, api.ErrRange, api.ErrEpoch, api.ErrVersion, api.ErrAborted},
		{api.ErrArg, api.ErrNil, api.ErrFull, api.ErrNone, api.ErrTwice, api.ErrState, api.ErrShort, api.ErrForm, api.ErrLong, api.ErrBad, api.ErrUnique, api.ErrNoIndex,
			-1, api.ErrVersion + 1, 100, math.MinInt, math.MaxInt},
	}
	seen := 0
	for want, row := range rows {
		for _, code := range row {
			if got := fault.Again(code); got != want {
				t.Errorf("P2.3: Again(%d) = %d, want %d", int(code), got, want)
			}
			seen++
		}
	}
	if seen != int(api.ErrVersion)+1+5 {
		t.Errorf("P2.3: %d codes were asked for: not all", seen)
	}
}
