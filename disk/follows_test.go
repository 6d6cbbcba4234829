package disk_test

import (
	"bytes"
	"math/rand/v2"
	"slices"
	"testing"

	"armoire/api"
	"armoire/disk"
)

// late is a write that waits.
type late struct {
	at int
	b  []byte
}

// plain is a disk, built as the chapter speaks of it: what is kept, and what waits.
type plain struct {
	kept [][]byte
	wait []late
	down bool
	hit  int // 0: none
}

func plainOf(n int) *plain {
	p := &plain{}
	for range n {
		p.kept = append(p.kept, full(0))
	}
	return p
}

func (p *plain) fork() *plain {
	f := &plain{wait: slices.Clone(p.wait), down: p.down, hit: p.hit}
	for _, b := range p.kept {
		f.kept = append(f.kept, bytes.Clone(b))
	}
	return f
}

// struck: is this one hit?
func (p *plain) struck() bool {
	p.hit--
	if p.hit == 0 {
		p.down = true
		return true
	}
	p.hit = max(p.hit, 0)
	return false
}

func (p *plain) read(at int) ([]byte, api.Errno) {
	if p.down {
		return nil, api.ErrDown
	}
	if at < 0 || at >= len(p.kept) {
		return nil, api.ErrArg
	}
	for _, w := range slices.Backward(p.wait) {
		if w.at == at {
			return w.b, api.OK
		}
	}
	return p.kept[at], api.OK
}

func (p *plain) write(at int, b []byte) api.Errno {
	if _, e := p.read(at); e != api.OK {
		return e
	}
	if len(b) != api.Sector {
		return api.ErrArg
	}
	p.wait = append(p.wait, late{at, b})
	if p.struck() {
		return api.ErrDown
	}
	return api.OK
}

func (p *plain) flush() api.Errno {
	if p.down || p.struck() {
		return api.ErrDown
	}
	for _, w := range p.wait {
		copy(p.kept[w.at], w.b)
	}
	p.wait = nil
	return api.OK
}

func (p *plain) crash(keep []int) {
	for i, w := range p.wait {
		if i < len(keep) && keep[i] > 0 {
			copy(p.kept[w.at], w.b[:min(keep[i], api.Sector)])
		}
	}
	p.wait, p.down = nil, true
}

func (p *plain) start() {
	if p.down {
		p.wait = nil
	}
	p.down, p.hit = false, 0
}

// both: a disk, and the plain one that it has to be.
type both struct {
	d *disk.Disk
	p *plain
}

// look holds all that a disk tells against what the plain one does.
func (b both) look(t *testing.T) {
	t.Helper()
	if b.d.Down() != b.p.down || b.d.Waiting() != len(b.p.wait) || b.d.Size() != len(b.p.kept) {
		t.Fatalf("down %v, %d wait, size %d; want %v, %d, %d", b.d.Down(), b.d.Waiting(), b.d.Size(), b.p.down, len(b.p.wait), len(b.p.kept))
	}
	for at := -1; at <= len(b.p.kept); at++ {
		got, e := b.d.Read(at)
		want, f := b.p.read(at)
		if e != f || !bytes.Equal(got, want) {
			t.Fatalf("Read(%d): %v, %v; want %v, %v", at, got, e, want, f)
		}
	}
}

// started: what forks of both show when they are up, so that what is kept is seen.
func (b both) started(t *testing.T, keep []int) {
	t.Helper()
	f := both{b.d.Fork(), b.p.fork()}
	f.d.Crash(keep)
	f.p.crash(keep)
	f.look(t)
	f.d.Start()
	f.p.start()
	f.look(t)
}

// told: both answer the same.
func told(t *testing.T, what string, got, want api.Errno) {
	t.Helper()
	if got != want {
		t.Fatalf("%s: %v; want %v", what, got, want)
	}
}

// keeps: how many bytes of each write may be kept, sometimes of more or fewer writes than wait.
func keeps(r *rand.Rand, waits int) []int {
	var out []int
	for range r.IntN(waits + 3) {
		out = append(out, []int{0, api.Sector, r.IntN(api.Sector), -r.IntN(9), api.Sector + r.IntN(9)}[r.IntN(5)])
	}
	return out
}

// step does one thing to both.
func (b both) step(t *testing.T, r *rand.Rand) {
	t.Helper()
	switch n := r.IntN(100); {
	case n < 60:
		at := r.IntN(len(b.p.kept)+1) - r.IntN(40)/39
		x := bytes.Repeat([]byte{byte(1 + r.IntN(255))}, api.Sector-r.IntN(30)/29)
		told(t, "Write", b.d.Write(at, x), b.p.write(at, x))
	case n < 80:
		told(t, "Flush", b.d.Flush(), b.p.flush())
	case n < 85:
		b.p.hit = r.IntN(9) - 1
		told(t, "Arm", b.d.Arm(b.p.hit), api.OK)
		b.p.hit = max(b.p.hit, 0)
	case n < 90:
		keep := keeps(r, len(b.p.wait))
		told(t, "Crash", b.d.Crash(keep), api.OK)
		b.p.crash(keep)
	default:
		told(t, "Start", b.d.Start(), api.OK)
		b.p.start()
	}
}

// A disk is what a plain one would be, with its forks, which go on side by side.
func TestLikeAPlainDisk(t *testing.T) {
	for seed := range 60 {
		r := rand.New(rand.NewPCG(uint64(seed), 5))
		n := 1 + r.IntN(5)
		first := both{made(t, n), plainOf(n)}
		all := []both{first, {first.d.Fork(), first.p.fork()}}
		for range 1500 {
			i := r.IntN(len(all))
			all[i].step(t, r)
			if r.IntN(50) == 0 {
				all[1-i] = both{all[i].d.Fork(), all[i].p.fork()}
			}
			all[0].look(t)
			all[1].look(t)
			if r.IntN(10) == 0 {
				all[i].started(t, keeps(r, len(all[i].p.wait)))
			}
		}
	}
}

// Every day of up to five things, out of a few.
func TestAllShortDays(t *testing.T) {
	things := []func(b both) (got, want api.Errno){
		func(b both) (api.Errno, api.Errno) { return b.d.Write(0, full(1)), b.p.write(0, full(1)) },
		func(b both) (api.Errno, api.Errno) { return b.d.Write(1, full(2)), b.p.write(1, full(2)) },
		func(b both) (api.Errno, api.Errno) { return b.d.Write(0, torn(9, 3, 4)), b.p.write(0, torn(9, 3, 4)) },
		func(b both) (api.Errno, api.Errno) { return b.d.Write(2, full(5)), b.p.write(2, full(5)) },
		func(b both) (api.Errno, api.Errno) { return b.d.Flush(), b.p.flush() },
		func(b both) (api.Errno, api.Errno) { b.p.hit = 1; return b.d.Arm(1), api.OK },
		func(b both) (api.Errno, api.Errno) { b.p.hit = 2; return b.d.Arm(2), api.OK },
		func(b both) (api.Errno, api.Errno) { b.p.crash([]int{3, 64}); return b.d.Crash([]int{3, 64}), api.OK },
		func(b both) (api.Errno, api.Errno) { b.p.start(); return b.d.Start(), api.OK },
	}
	var days func(b both, left int)
	days = func(b both, left int) {
		b.look(t)
		b.started(t, []int{64, 5, 64})
		if left == 0 {
			return
		}
		for i, thing := range things {
			next := both{b.d.Fork(), b.p.fork()}
			if got, want := thing(next); got != want {
				t.Fatalf("thing %d, %d left: %v; want %v", i, left, got, want)
			}
			days(next, left-1)
		}
	}
	days(both{made(t, 2), plainOf(2)}, 5)
}

// What was flushed is there behind any fall: whichever Write or Flush is hit, and whatever is kept of what waits.
func TestFlushedIsThere(t *testing.T) {
	const rounds, sectors = 6, 3
	for n := 1; n <= rounds*(sectors+1); n++ {
		for _, keep := range []int{0, 1, 40, api.Sector} {
			d := made(t, sectors)
			d.Arm(n)
			done := 0
			for round := 1; round <= rounds && !d.Down(); round++ {
				for at := range sectors {
					d.Write(at, full(byte(round)))
				}
				if d.Flush() == api.OK {
					done = round
				}
			}
			if !d.Down() || done != (n-1)/(sectors+1) {
				t.Fatalf("P5.2: Arm(%d): down %v, behind %d rounds", n, d.Down(), done)
			}
			left := d.Waiting()
			d.Crash([]int{keep, keep, keep})
			d.Start()
			for at := range sectors {
				want := full(byte(done))
				if at < left {
					want = torn(keep, byte(done+1), byte(done))
				}
				if b, _ := d.Read(at); !bytes.Equal(b, want) {
					t.Errorf("Arm(%d), keep %d: sector %d: %v; want %v", n, keep, at, b, want)
				}
			}
		}
	}
}

// A disk of all sectors, all of which wait more than once, is asked and falls without going through all of them for each.
func TestGreatDisk(t *testing.T) {
	d := made(t, api.MaxSectors)
	for round := 1; round <= 2; round++ {
		for at := range api.MaxSectors {
			wrote(t, d, at, byte(round+at))
			if b, e := d.Read(at); e != api.OK || b[0] != byte(round+at) {
				t.Fatalf("P5.1: Read(%d): %v, %v", at, b, e)
			}
		}
	}
	if d.Waiting() != 2*api.MaxSectors {
		t.Errorf("P5.3: %d wait", d.Waiting())
	}
	f := d.Fork()
	flushed(t, d)
	d.Crash(nil)
	d.Start()
	f.Crash(slices.Repeat([]int{api.Sector}, api.MaxSectors))
	f.Start()
	for at := range api.MaxSectors {
		a, _ := d.Read(at)
		b, _ := f.Read(at)
		if !bytes.Equal(a, full(byte(2+at))) || !bytes.Equal(b, full(byte(1+at))) {
			t.Fatalf("P5.3: sector %d: %v, %v", at, a, b)
		}
	}
}
