package disk_test

import (
	"errors"
	"slices"
	"testing"

	"armoire/api"
	"armoire/disk"
	"armoire/fault"
)

// P5.2: a Write that is hit waits, and the disk is down.
func TestHitWrite(t *testing.T) {
	d := made(t, 2)
	d.Arm(3)
	wrote(t, d, 0, 1)
	wrote(t, d, 0, 2)
	if e := d.Write(1, full(3)); e != api.ErrDown || !d.Down() || d.Waiting() != 3 {
		t.Fatalf("P5.2: a Write that is hit: %v, down %v, %d wait", e, d.Down(), d.Waiting())
	}
	if e := d.Write(1, full(4)); e != api.ErrDown || d.Waiting() != 3 {
		t.Errorf("P5.1: a Write behind it: %v, %d wait", e, d.Waiting())
	}
	f := d.Fork()
	d.Crash([]int{0, 64, 5})
	d.Start()
	shows(t, d, full(2), torn(5, 3, 0))
	f.Start()
	shows(t, f, full(0), full(0))
}

// P5.2: a Flush that is hit keeps nothing, and the disk is down.
func TestHitFlush(t *testing.T) {
	d := made(t, 2)
	wrote(t, d, 0, 1)
	flushed(t, d)
	d.Arm(2)
	wrote(t, d, 0, 2)
	if e := d.Flush(); e != api.ErrDown || !d.Down() || d.Waiting() != 1 {
		t.Fatalf("P5.2: a Flush that is hit: %v, down %v, %d wait", e, d.Down(), d.Waiting())
	}
	f := d.Fork()
	d.Start()
	shows(t, d, full(1), full(0))
	f.Crash([]int{7})
	f.Start()
	shows(t, f, torn(7, 2, 1), full(0))
}

// P5.2: what is refused, and what neither writes nor flushes, is not counted.
func TestNotCounted(t *testing.T) {
	d := made(t, 1)
	d.Arm(2)
	d.Write(1, full(1))
	d.Write(-1, full(1))
	d.Write(0, nil)
	d.Read(0)
	d.Read(5)
	d.Down()
	d.Waiting()
	d.Size()
	d.Fork().Flush()
	wrote(t, d, 0, 1)
	if e := d.Write(0, full(2)[1:]); e != api.ErrArg || d.Down() {
		t.Errorf("P5.2: a Write that is refused is hit: %v", e)
	}
	if e := d.Flush(); e != api.ErrDown || !d.Down() {
		t.Errorf("P5.2: the second one is not hit: %v", e)
	}
}

// P5.2: Arm of n hits the n-th, and no other one.
func TestArmCounts(t *testing.T) {
	for n := 1; n <= 6; n++ {
		for first := range 2 {
			d := made(t, 1)
			if e := d.Arm(n); e != api.OK {
				t.Fatalf("P5.2: Arm(%d): %v", n, e)
			}
			for i := 1; i <= n; i++ {
				do := d.Flush
				if (i+first)%2 == 0 {
					do = func() api.Errno { return d.Write(0, full(byte(i))) }
				}
				want := api.OK
				if i == n {
					want = api.ErrDown
				}
				if got := do(); got != want || d.Down() != (i == n) {
					t.Errorf("P5.2: Arm(%d): the %d-th: %v; want %v", n, i, got, want)
				}
			}
			d.Start()
			for range 8 {
				wrote(t, d, 0, 9)
				flushed(t, d)
			}
		}
	}
}

// P5.2: a later Arm takes the place of an elder one; below 1 none is hit.
func TestArmAnew(t *testing.T) {
	for _, n := range []int{0, -1, -1 << 63} {
		d := made(t, 1)
		d.Arm(1)
		if e := d.Arm(n); e != api.OK {
			t.Errorf("P5.2: Arm(%d): %v", n, e)
		}
		for range 5 {
			wrote(t, d, 0, 1)
			flushed(t, d)
		}
	}
	d := made(t, 1)
	d.Arm(2)
	wrote(t, d, 0, 1)
	d.Arm(3)
	wrote(t, d, 0, 1)
	flushed(t, d)
	if e := d.Flush(); e != api.ErrDown {
		t.Errorf("P5.2: Arm(2), Arm(3): the third one: %v", e)
	}
	d = made(t, 1)
	d.Arm(3)
	d.Arm(1)
	if e := d.Flush(); e != api.ErrDown {
		t.Errorf("P5.2: Arm(3), Arm(1): the first one: %v", e)
	}
	d = made(t, 1)
	d.Arm(1<<63 - 1)
	for range 5 {
		wrote(t, d, 0, 1)
		flushed(t, d)
	}
}

// P5.2, P5.3: Start arms nothing, of a disk that is down, and of one that is up; Crash does not matter to it.
func TestStartArmsNothing(t *testing.T) {
	falls := map[string]func(*disk.Disk){
		"up":               func(d *disk.Disk) { d.Arm(1) },
		"down":             func(d *disk.Disk) { d.Arm(2); d.Crash(nil) },
		"armed while down": func(d *disk.Disk) { d.Crash(nil); d.Arm(1) },
		"hit, armed":       func(d *disk.Disk) { d.Arm(1); d.Flush(); d.Arm(2) },
	}
	for name, fall := range falls {
		d := made(t, 1)
		fall(d)
		if e := d.Start(); e != api.OK || d.Down() {
			t.Errorf("P5.3: Start, %s: %v, down %v", name, e, d.Down())
		}
		for range 3 {
			wrote(t, d, 0, 1)
			flushed(t, d)
		}
	}
}

// P5.3: Start of a disk that is up changes nothing that it has.
func TestStartUp(t *testing.T) {
	d := made(t, 2)
	wrote(t, d, 0, 1)
	flushed(t, d)
	wrote(t, d, 0, 2)
	wrote(t, d, 1, 3)
	if e := d.Start(); e != api.OK || d.Down() || d.Waiting() != 2 {
		t.Errorf("P5.3: Start: %v, down %v, %d wait", e, d.Down(), d.Waiting())
	}
	shows(t, d, full(2), full(3))
	f := d.Fork()
	flushed(t, d)
	shows(t, d, full(2), full(3))
	f.Crash([]int{0, 64})
	f.Start()
	shows(t, f, full(1), full(3))
}

// P5.3: how many first bytes of a write are kept.
func TestCrashKeeps(t *testing.T) {
	for n := -2; n <= api.Sector+2; n++ {
		d := made(t, 1)
		wrote(t, d, 0, 1)
		flushed(t, d)
		wrote(t, d, 0, 2)
		if e := d.Crash([]int{n}); e != api.OK || !d.Down() || d.Waiting() != 0 {
			t.Fatalf("P5.3: Crash: %v, down %v, %d wait", e, d.Down(), d.Waiting())
		}
		d.Start()
		shows(t, d, torn(min(max(n, 0), api.Sector), 2, 1))
	}
	for n, want := range map[int]byte{-1 << 63: 1, 1<<63 - 1: 2} {
		d := made(t, 1)
		wrote(t, d, 0, 1)
		flushed(t, d)
		wrote(t, d, 0, 2)
		d.Crash([]int{n})
		d.Start()
		shows(t, d, full(want))
	}
}

// P5.3: the i-th number is the i-th write's, whichever sector it is of; a write lies over those ahead of it.
func TestCrashInOrder(t *testing.T) {
	cases := []struct {
		keep []int
		want [2][]byte
	}{
		{nil, [2][]byte{full(1), full(0)}},
		{[]int{64}, [2][]byte{full(2), full(0)}},
		{[]int{0, 64}, [2][]byte{full(1), full(3)}},
		{[]int{0, 0, 64}, [2][]byte{full(4), full(0)}},
		{[]int{0, 0, 0, 64}, [2][]byte{full(1), full(5)}},
		{[]int{30, 0, 10}, [2][]byte{append(torn(10, 4, 2)[:30], full(1)[30:]...), full(0)}},
		{[]int{10, 0, 30}, [2][]byte{torn(30, 4, 1), full(0)}},
		{[]int{64, 64, 1, 1}, [2][]byte{torn(1, 4, 2), torn(1, 5, 3)}},
		{[]int{99, -9, -9, 99, 64, 64}, [2][]byte{full(2), full(5)}},
		{[]int{64, 64, 64, 64, 64}, [2][]byte{full(4), full(5)}},
	}
	for _, c := range cases {
		d := made(t, 2)
		wrote(t, d, 0, 1)
		flushed(t, d)
		for i, at := range []int{0, 1, 0, 1} {
			wrote(t, d, at, byte(2+i))
		}
		d.Crash(c.keep)
		d.Start()
		shows(t, d, c.want[:]...)
		if t.Failed() {
			t.Fatalf("P5.3: Crash(%v)", c.keep)
		}
	}
}

// P5.3: what is kept by a fall is kept by the next one, too; nothing waits behind one.
func TestCrashTwice(t *testing.T) {
	d := made(t, 1)
	wrote(t, d, 0, 1)
	d.Crash([]int{20})
	if e := d.Crash([]int{64}); e != api.OK || !d.Down() {
		t.Errorf("P5.3: Crash of one that is down: %v, down %v", e, d.Down())
	}
	d.Start()
	shows(t, d, torn(20, 1, 0))
	d.Crash(nil)
	d.Start()
	shows(t, d, torn(20, 1, 0))
	wrote(t, d, 0, 2)
	d.Crash([]int{10})
	d.Start()
	shows(t, d, append(torn(10, 2, 1)[:20], full(0)[20:]...))
}

// P5.3: a fork is alike: what shows, what waits, whether it is down, and what is armed.
func TestFork(t *testing.T) {
	d := made(t, 2)
	wrote(t, d, 0, 1)
	flushed(t, d)
	wrote(t, d, 0, 2)
	wrote(t, d, 1, 3)
	d.Arm(2)
	f := d.Fork()
	shows(t, f, full(2), full(3))
	if f.Waiting() != 2 || f.Down() || f.Size() != 2 {
		t.Errorf("P5.3: a fork: %d wait, down %v, size %d", f.Waiting(), f.Down(), f.Size())
	}
	wrote(t, f, 1, 4)
	if e := f.Flush(); e != api.ErrDown {
		t.Errorf("P5.3: what is armed is not a fork's: %v", e)
	}
	shows(t, d, full(2), full(3))
	wrote(t, d, 0, 5)
	if e := d.Write(0, full(6)); e != api.ErrDown {
		t.Errorf("P5.3: what a fork does counts here: %v", e)
	}
	g := f.Fork()
	if !g.Down() || g.Waiting() != 3 {
		t.Errorf("P5.3: a fork of one that is down: down %v, %d wait", g.Down(), g.Waiting())
	}
	f.Crash(nil)
	g.Crash([]int{64, 64, 64})
	d.Crash([]int{1, 1})
	for _, d := range []*disk.Disk{d, f, g} {
		d.Start()
	}
	shows(t, f, full(1), full(0))
	shows(t, g, full(2), full(4))
	shows(t, d, torn(1, 2, 1), torn(1, 3, 0))
}

// Ways: an error of the disk is one that errors.Is holds, wrapped or not.
func TestErrorsIs(t *testing.T) {
	d := made(t, 1)
	d.Arm(1)
	_, outside := d.Read(1)
	hit := d.Write(0, full(1))
	_, down := d.Read(0)
	_, none := (*disk.Disk)(nil).Read(0)
	got := []api.Errno{outside, hit, down, none}
	want := []api.Errno{api.ErrArg, api.ErrDown, api.ErrDown, api.ErrNil}
	if !slices.Equal(got, want) {
		t.Fatalf("P5.1: %v; want %v", got, want)
	}
	for i, e := range got {
		if !errors.Is(e, want[i]) || !errors.Is(fault.New(e, "disk"), want[i]) || errors.Is(e, api.OK) {
			t.Errorf("Ways: errors.Is does not hold %v", e)
		}
	}
}
