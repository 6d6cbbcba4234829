package disk_test

import (
	"bytes"
	"slices"
	"testing"

	"armoire/api"
	"armoire/disk"
)

// R3: what is handed in is neither changed nor kept, with the room behind its end.
func TestArgumentsStay(t *testing.T) {
	d := made(t, 2)
	room := append(full(1), full(7)...)
	b := room[:api.Sector]
	if e := d.Write(0, b); e != api.OK {
		t.Fatalf("P5.1: Write of bytes with room behind them: %v", e)
	}
	keep := []int{70, -3, 5, 5}
	wrote(t, d, 1, 2)
	wrote(t, d, 1, 3)
	f := d.Fork()
	d.Crash(keep[:2])
	if !bytes.Equal(room, append(full(1), full(7)...)) || !slices.Equal(keep, []int{70, -3, 5, 5}) {
		t.Errorf("R3: what was handed in is changed: %v, %v", room, keep)
	}
	d.Start()
	copy(b, full(8))
	keep[0] = 0
	shows(t, d, full(1), full(0))
	shows(t, f, full(1), full(3))
	f.Crash([]int{64})
	f.Start()
	shows(t, f, full(1), full(0))
}

// R3: what is handed out is new memory.
func TestAnswersAreNew(t *testing.T) {
	states := map[string]func(*disk.Disk){
		"what waits":   func(*disk.Disk) {},
		"what is kept": func(d *disk.Disk) { d.Flush() },
		"what is left": func(d *disk.Disk) { d.Crash([]int{64, 64}); d.Start() },
	}
	for name, state := range states {
		d := made(t, 3)
		wrote(t, d, 0, 1)
		wrote(t, d, 1, 2)
		state(d)
		for at := range 3 {
			b, _ := d.Read(at)
			copy(b[:cap(b)], bytes.Repeat([]byte{9}, cap(b)))
			if again, _ := d.Read(at); bytes.Equal(again, full(9)) {
				t.Errorf("R3: %s is written into", name)
			}
		}
		shows(t, d, full(1), full(2), full(0))
		flushed(t, d)
		d.Crash(nil)
		d.Start()
		shows(t, d, full(1), full(2), full(0))
	}
}

// R3: two disks, and two sectors, share nothing.
func TestForksShareNothing(t *testing.T) {
	d := made(t, 2)
	wrote(t, d, 0, 1)
	f := d.Fork()
	wrote(t, f, 0, 2)
	wrote(t, d, 0, 3)
	wrote(t, d, 1, 4)
	g := d.Fork()
	flushed(t, g)
	shows(t, f, full(2), full(0))
	f.Crash([]int{0, 64})
	f.Start()
	shows(t, f, full(2), full(0))
	d.Crash([]int{0, 3, 64})
	d.Start()
	shows(t, d, torn(3, 3, 0), full(4))
	shows(t, g, full(3), full(4))
}
