package disk

import (
	"errors"
	"slices"

	"armoire/api"
)

// Arm lets the n-th Write or Flush from now on be hit; none, if n is below 1.
func (d *Disk) Arm(n int) api.Errno {
	if d == nil {
		return api.ErrNil
	}
	d.left = max(n, 0)
	return api.OK
}

// Crash lets the disk fall: of the writes that wait so many first bytes are kept.
func (d *Disk) Crash(keep []int) api.Errno {
	if d == nil {
		return api.ErrNil
	}
	d.fall(keep)
	d.down = true
	return api.OK
}

// Start lets a disk that is down be up, without what still waits, and arms nothing.
func (d *Disk) Start() api.Errno {
	if d == nil {
		return api.ErrNil
	}
	if d.Down() {
		d.fall(nil)
	}
	d.down, d.left = false, 0
	return api.OK
}

// Down: is the disk down?
func (d *Disk) Down() bool { return errors.Is(d.able(), api.ErrDown) }

// able is what Read, Write and Flush are refused for, whatever they are asked.
func (d *Disk) able() api.Errno {
	switch {
	case d == nil:
		return api.ErrNil
	case d.down:
		return api.ErrDown
	}
	return api.OK
}

// counted counts a Write or a Flush that would be done: the one that is hit takes the disk down.
func (d *Disk) counted() api.Errno {
	if d.left == 0 {
		return api.OK
	}
	d.left--
	d.down = d.left == 0
	return d.able()
}

// fall takes back what waits, and lays the first bytes of each write that are kept over that.
func (d *Disk) fall(keep []int) {
	for _, w := range slices.Backward(d.waits) {
		d.shown[w.at] = w.was
	}
	for i, n := range keep[:min(len(keep), len(d.waits))] {
		w := d.waits[i]
		copy(d.shown[w.at][:], w.is[:min(max(n, 0), api.Sector)])
	}
	d.waits = nil
}
