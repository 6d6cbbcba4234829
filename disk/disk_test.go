package disk_test

import (
	"bytes"
	"testing"

	"armoire/api"
	"armoire/disk"
)

// full: the bytes of a sector, all of them v.
func full(v byte) []byte { return bytes.Repeat([]byte{v}, api.Sector) }

// torn: the first n bytes of a, and behind them b's.
func torn(n int, a, b byte) []byte { return append(full(a)[:n:n], full(b)[n:]...) }

// made: a new disk of n sectors.
func made(t *testing.T, n int) *disk.Disk {
	t.Helper()
	d, e := disk.New(n)
	if d == nil || e != api.OK {
		t.Fatalf("P5.1: New(%d): %v, %v", n, d, e)
	}
	return d
}

// wrote: a write that is to be done.
func wrote(t *testing.T, d *disk.Disk, at int, v byte) {
	t.Helper()
	if e := d.Write(at, full(v)); e != api.OK {
		t.Fatalf("P5.1: Write(%d): %v", at, e)
	}
}

// flushed: a flush that is to be done.
func flushed(t *testing.T, d *disk.Disk) {
	t.Helper()
	if e := d.Flush(); e != api.OK || d.Waiting() != 0 {
		t.Fatalf("P5.1: Flush: %v, %d wait", e, d.Waiting())
	}
}

// shows: the sectors of a disk that is up are to show these bytes.
func shows(t *testing.T, d *disk.Disk, want ...[]byte) {
	t.Helper()
	if d.Size() != len(want) {
		t.Fatalf("P5.1: Size: %d; want %d", d.Size(), len(want))
	}
	for at, w := range want {
		if b, e := d.Read(at); e != api.OK || !bytes.Equal(b, w) {
			t.Errorf("Read(%d): %v, %v; want %v", at, b, e, w)
		}
	}
}

// P5.1: how many sectors a disk may have.
func TestNew(t *testing.T) {
	for _, n := range []int{1, 2, 64, api.MaxSectors - 1, api.MaxSectors} {
		d := made(t, n)
		if d.Size() != n || d.Down() || d.Waiting() != 0 {
			t.Errorf("P5.1: New(%d): size %d, down %v, %d wait", n, d.Size(), d.Down(), d.Waiting())
		}
		for _, at := range []int{0, n / 2, n - 1} {
			if b, e := d.Read(at); e != api.OK || !bytes.Equal(b, full(0)) {
				t.Errorf("P5.1: New(%d), Read(%d): %v, %v", n, at, b, e)
			}
		}
	}
	for _, n := range []int{-1 << 63, -1, 0, api.MaxSectors + 1, 1<<63 - 1} {
		if d, e := disk.New(n); d != nil || e != api.ErrArg {
			t.Errorf("P5.1: New(%d): %v, %v", n, d, e)
		}
	}
}

// P5.1: a sector shows the last write to it that waits, or else what is kept.
func TestShows(t *testing.T) {
	d := made(t, 3)
	wrote(t, d, 0, 1)
	wrote(t, d, 2, 2)
	shows(t, d, full(1), full(0), full(2))
	wrote(t, d, 0, 3)
	shows(t, d, full(3), full(0), full(2))
	if d.Waiting() != 3 {
		t.Errorf("P5.3: %d wait; want 3", d.Waiting())
	}
	flushed(t, d)
	shows(t, d, full(3), full(0), full(2))
	wrote(t, d, 2, 4)
	shows(t, d, full(3), full(0), full(4))
	d.Crash(nil)
	d.Start()
	shows(t, d, full(3), full(0), full(2))
}

// P5.1: each byte of a sector is the one that was written.
func TestEachByte(t *testing.T) {
	b := make([]byte, api.Sector)
	for i := range b {
		b[i] = byte(200 + i)
	}
	d := made(t, 2)
	if e := d.Write(1, b); e != api.OK {
		t.Fatalf("P5.1: Write: %v", e)
	}
	shows(t, d, full(0), b)
	flushed(t, d)
	d.Crash(nil)
	d.Start()
	shows(t, d, full(0), b)
}

// P5.1: sectors that are not there, and bytes that are no sector's.
func TestArguments(t *testing.T) {
	d := made(t, 2)
	wrote(t, d, 1, 1)
	for _, at := range []int{-1 << 63, -1, 2, api.MaxSectors, 1<<63 - 1} {
		if b, e := d.Read(at); b != nil || e != api.ErrArg {
			t.Errorf("P5.1: Read(%d): %v, %v", at, b, e)
		}
		if e := d.Write(at, full(9)); e != api.ErrArg {
			t.Errorf("P5.1: Write(%d): %v", at, e)
		}
		if e := d.Write(at, nil); e != api.ErrArg {
			t.Errorf("P5.1: Write(%d) of nothing: %v", at, e)
		}
	}
	for _, n := range []int{0, 1, api.Sector - 1, api.Sector + 1, 2 * api.Sector} {
		if e := d.Write(0, make([]byte, n)); e != api.ErrArg {
			t.Errorf("P5.1: Write of %d bytes: %v", n, e)
		}
	}
	if e := d.Write(0, nil); e != api.ErrArg {
		t.Errorf("P5.1: Write of nil: %v", e)
	}
	if d.Waiting() != 1 || d.Down() {
		t.Errorf("R4: %d wait, down %v", d.Waiting(), d.Down())
	}
	shows(t, d, full(0), full(1))
}

// P5.1: a disk that is down reads, writes and flushes nothing, whatever it is asked (R5: ErrDown comes ahead of ErrArg).
func TestDown(t *testing.T) {
	d := made(t, 2)
	wrote(t, d, 0, 1)
	flushed(t, d)
	d.Crash(nil)
	for _, at := range []int{0, 1, 2, -1} {
		if b, e := d.Read(at); b != nil || e != api.ErrDown {
			t.Errorf("P5.1: Read(%d): %v, %v", at, b, e)
		}
		for _, b := range [][]byte{full(9), full(9)[1:], nil} {
			if e := d.Write(at, b); e != api.ErrDown {
				t.Errorf("P5.1: Write(%d) of %d bytes: %v", at, len(b), e)
			}
		}
	}
	if e := d.Flush(); e != api.ErrDown {
		t.Errorf("P5.1: Flush: %v", e)
	}
	if !d.Down() || d.Waiting() != 0 || d.Size() != 2 {
		t.Errorf("P5.3: down %v, %d wait, size %d", d.Down(), d.Waiting(), d.Size())
	}
	d.Start()
	shows(t, d, full(1), full(0))
}

// P5.1, P5.3, R1: a nil disk.
func TestNil(t *testing.T) {
	var d *disk.Disk
	if b, e := d.Read(0); b != nil || e != api.ErrNil {
		t.Errorf("P5.1: Read: %v, %v", b, e)
	}
	for _, e := range []api.Errno{d.Write(0, full(1)), d.Write(-1, nil), d.Flush(), d.Arm(1), d.Arm(-1), d.Crash([]int{1}), d.Start()} {
		if e != api.ErrNil {
			t.Errorf("P5.1: a nil disk: %v", e)
		}
	}
	if d.Size() != 0 || d.Down() || d.Waiting() != 0 || d.Fork() != nil {
		t.Error("P5.3: a nil disk")
	}
}

// R1: a disk that New did not make has no sectors.
func TestZero(t *testing.T) {
	var d disk.Disk
	if b, e := d.Read(0); b != nil || e != api.ErrArg {
		t.Errorf("R1: Read: %v, %v", b, e)
	}
	if e := d.Write(0, full(1)); e != api.ErrArg {
		t.Errorf("R1: Write: %v", e)
	}
	if d.Size() != 0 || d.Down() || d.Waiting() != 0 || d.Fork() == nil {
		t.Error("R1: a disk without sectors")
	}
	if a, b, c := d.Arm(2), d.Flush(), d.Flush(); a != api.OK || b != api.OK || c != api.ErrDown {
		t.Errorf("R1: %v, %v, %v", a, b, c)
	}
	if a, b, c := d.Crash([]int{5}), d.Start(), d.Flush(); a != api.OK || b != api.OK || c != api.OK {
		t.Errorf("R1: %v, %v, %v", a, b, c)
	}
}
