package fault_test

import (
	"errors"
	"testing"

	"armoire/api"
	"armoire/fault"
)

// plain is an error that is no code and has no cause.
var plain = errors.New("plain")

// list is an error that may not be held against another one by ==.
type list []string

func (l list) Error() string { return "list" }

// codes: all codes, and some numbers that are none.
func codes() []api.Errno {
	out := []api.Errno{-1 << 62, -1, api.ErrVersion + 1, 1 << 62}
	for code := api.OK; code <= api.ErrVersion; code++ {
		out = append(out, code)
	}
	return out
}

// asFault: the fault that e itself is.
func asFault(t *testing.T, e error) *fault.Fault {
	t.Helper()
	f, is := e.(*fault.Fault)
	if !is || f == nil {
		t.Fatalf("P2.1: %#v is no fault", e)
	}
	return f
}

func TestNew(t *testing.T) {
	if e := fault.New(api.OK, "shard"); e != nil {
		t.Errorf("P2.1: New of OK: %#v, want nil", e)
	}
	for _, code := range codes() {
		if code == api.OK {
			continue
		}
		f := asFault(t, fault.New(code, "shard"))
		if f.Unwrap() != error(code) {
			t.Errorf("P2.1: New of %d has the cause %#v", int(code), f.Unwrap())
		}
		if want := "shard: " + code.Error(); f.Error() != want {
			t.Errorf("P2.1: New of %d tells %q, want %q", int(code), f.Error(), want)
		}
	}
}

func TestWrap(t *testing.T) {
	if e := fault.Wrap(nil, "txn"); e != nil {
		t.Errorf("P2.1: Wrap of nil: %#v, want nil", e)
	}
	inner := fault.New(api.ErrLocked, "shard")
	rows := []struct {
		cause error
		where string
		want  string
	}{
		{plain, "a", "a: plain"},
		{plain, "", ": plain"},
		{plain, "a: b", "a: b: plain"},
		{errors.New(""), "a", "a: "},
		{inner, "txn", "txn: shard: locked"},
		{fault.Wrap(inner, "txn"), "client", "client: txn: shard: locked"},
		{api.ErrFull, "disk", "disk: full"},
		{api.OK, "disk", "disk: ok"},
	}
	for _, r := range rows {
		f := asFault(t, fault.Wrap(r.cause, r.where))
		if f.Error() != r.want {
			t.Errorf("P2.1: Wrap(%v, %q) tells %q, want %q", r.cause, r.where, f.Error(), r.want)
		}
		if f.Unwrap() != r.cause {
			t.Errorf("P2.1: Wrap(%v, %q) has the cause %#v", r.cause, r.where, f.Unwrap())
		}
	}
	if text := fault.Wrap(list{"x"}, "a").Error(); text != "a: list" {
		t.Errorf("P2.1: a list that is wrapped tells %q", text)
	}
}

// What is wrapped stays as it is, and is not shared by two that wrap it.
func TestWrapApart(t *testing.T) {
	inner := fault.New(api.ErrLocked, "shard")
	one, two := fault.Wrap(inner, "one"), fault.Wrap(inner, "two")
	if inner.Error() != "shard: locked" || one.Error() != "one: shard: locked" || two.Error() != "two: shard: locked" {
		t.Errorf("P2.1: %q, wrapped %q and %q", inner, one, two)
	}
	if fault.New(api.ErrLocked, "shard") == inner {
		t.Error("P2.1: two faults are one")
	}
}

func TestFaultIs(t *testing.T) {
	for _, code := range codes() {
		for depth, e := range []error{fault.Wrap(code, "a"), fault.Wrap(fault.Wrap(code, "a"), "b")} {
			f := asFault(t, e)
			for _, other := range codes() {
				if got, want := f.Is(other), other == code; got != want {
					t.Errorf("P2.1: Is(%d) of a fault of %d at depth %d: %v", int(other), int(code), depth, got)
				}
			}
		}
	}
	f := asFault(t, fault.New(api.ErrLocked, "a"))
	for _, target := range []error{nil, f, plain, list{"locked"}, fault.Wrap(api.ErrLocked, "b"), errors.Join(api.ErrLocked), (*fault.Fault)(nil), errors.New("locked")} {
		if f.Is(target) {
			t.Errorf("P2.1: Is of %#v, which is no code", target)
		}
	}
	f = asFault(t, fault.Wrap(plain, "a"))
	if !f.Is(api.ErrBad) || f.Is(api.OK) || f.Is(plain) {
		t.Error("P2.1: Is of a fault without a code: its Code is ErrBad")
	}
	f = asFault(t, fault.Wrap(errors.Join(api.ErrFull, api.ErrLocked), "a"))
	if !f.Is(api.ErrFull) || f.Is(api.ErrLocked) {
		t.Error("P2.1: Is of a fault with two codes: its Code is the first")
	}
}

func TestNilFault(t *testing.T) {
	var none *fault.Fault
	if text := none.Error(); text != "" {
		t.Errorf("P2.1: a nil fault tells %q", text)
	}
	if e := none.Unwrap(); e != nil {
		t.Errorf("P2.1: a nil fault has the cause %#v", e)
	}
	for _, target := range []error{nil, none, plain, api.OK, api.ErrBad, api.ErrNil} {
		if none.Is(target) {
			t.Errorf("P2.1: a nil fault is %#v", target)
		}
	}
}

// A nil fault is an error that is not nil, and has neither a code nor a cause.
func TestNilFaultWrapped(t *testing.T) {
	var none *fault.Fault
	if code := fault.Code(none); code != api.ErrBad {
		t.Errorf("P2.2: the code of a nil fault: %v, want bad", code)
	}
	if !fault.Is(none, api.ErrBad) || fault.Is(none, api.OK) {
		t.Error("P2.2: Is of a nil fault")
	}
	if l := fault.Where(none); len(l) != 0 {
		t.Errorf("P2.2: a nil fault says %q", l)
	}
	e := fault.Wrap(none, "a")
	if e == nil {
		t.Fatal("P2.1: Wrap of a nil fault: nil")
	}
	if e.Error() != "a: " || fault.Code(e) != api.ErrBad {
		t.Errorf("P2.1: a nil fault that is wrapped tells %q, code %v", e, fault.Code(e))
	}
	if l := fault.Where(e); len(l) != 1 || l[0] != "a" {
		t.Errorf("P2.2: a nil fault that is wrapped says %q", l)
	}
}

// R1: a fault that neither New nor Wrap made has no cause.
func TestZeroFault(t *testing.T) {
	zero := new(fault.Fault)
	if zero.Unwrap() != nil || zero.Error() != ": " {
		t.Errorf("R1: a zero fault tells %q, with the cause %#v", zero, zero.Unwrap())
	}
	if fault.Code(zero) != api.ErrBad || zero.Is(api.OK) || !zero.Is(api.ErrBad) {
		t.Errorf("R1: a zero fault has the code %v", fault.Code(zero))
	}
	e := fault.Wrap(zero, "a")
	if e.Error() != "a: : " || len(fault.Where(e)) != 2 {
		t.Errorf("R1: a zero fault that is wrapped tells %q, and says %q", e, fault.Where(e))
	}
}
