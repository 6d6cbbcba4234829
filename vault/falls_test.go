package vault_test

import (
	"bytes"
	"math/rand/v2"
	"slices"
	"testing"

	"armoire/api"
	"armoire/disk"
	"armoire/vault"
)

// known is what the chapter says that there is behind a fall: what the last Put told, or one that was answered with ErrDown.
type known struct {
	safe api.Log
	may  []api.Log
}

// found: what is there behind a fall is one of what may be; from then on it is what is known.
func (k *known) found(t *testing.T, d *disk.Disk) *vault.Vault {
	t.Helper()
	v := opened(t, d)
	l := v.Log()
	if !slices.ContainsFunc(append(k.may, k.safe), func(o api.Log) bool { return same(l, o) }) {
		t.Fatalf("P7.2: %s; want %s, or one of %d", short(l), short(k.safe), len(k.may))
	}
	*k = known{safe: l}
	has(t, opened(t, d), l)
	return v
}

// do puts a log, and tells whether the vault goes on.
func (k *known) do(t *testing.T, v *vault.Vault, l api.Log) bool {
	t.Helper()
	err := v.Put(l)
	if err == nil {
		has(t, v, l)
		k.safe = l
		return true
	}
	if answers(t, "Put", err, api.ErrDown); t.Failed() {
		t.FailNow()
	}
	answers(t, "Put of one that has answered ErrDown", v.Put(l), api.ErrDown)
	k.may = append(k.may, l)
	return false
}

// tears: how much may be kept of so many writes that wait: none, some, or all of each of the first ones, and all up to the last ones.
func tears(waits int) [][]int {
	points := []int{0, 30, 57, api.Sector}
	if waits > 4 {
		points = []int{0, api.Sector}
	}
	list := [][]int{nil}
	for range min(waits, 4) {
		var longer [][]int
		for _, keep := range list {
			for _, p := range points {
				longer = append(longer, append(slices.Clone(keep), p))
			}
		}
		list = longer
	}
	for less := range min(waits, 3) {
		list = append(list, whole(waits-less), append(whole(waits-less-1), 58))
	}
	return list
}

// shown: all sectors.
func shown(t *testing.T, d *disk.Disk) []byte {
	t.Helper()
	var list []byte
	for at := range d.Size() {
		b, e := d.Read(at)
		if e != api.OK {
			t.Fatal(e)
		}
		list = append(list, b...)
	}
	return list
}

// tree is all that may come of sessions, one behind the other; what was on a disk at the beginning of one is gone on with once.
type tree struct {
	sessions [][]api.Log
	seen     map[string]bool
}

// grow goes on from what is on a disk ahead of the n-th session: it is hit at each Write and Flush, and keeps each tear.
func (w tree) grow(t *testing.T, d *disk.Disk, k known, n int) {
	t.Helper()
	key := string(append(shown(t, d), byte(n)))
	if n == len(w.sessions) || w.seen[key] {
		return
	}
	w.seen[key] = true
	for hit := 1; ; hit++ {
		d, k := d.Fork(), k
		v := k.found(t, d)
		d.Arm(hit)
		for _, l := range w.sessions[n] {
			if !k.do(t, v, l) {
				break
			}
		}
		for _, keep := range tears(d.Waiting()) {
			d, k := d.Fork(), k
			fallen(t, d, keep...)
			k.found(t, d)
			w.grow(t, d, k, n+1)
		}
		if !d.Down() {
			return
		}
	}
}

// P7.2: whichever Write or Flush is hit, and whatever is kept, three sessions long, on disks that are renewed often.
func TestAllFalls(t *testing.T) {
	a := row(3, 10, 0, 60, 1)
	for name, sessions := range map[string][][]api.Log{
		"small":        {{row(1), row(2), row(3)}, {row(4), row(5), row(6), row(7)}, {row(8), row(9), row(10)}},
		"longer":       {{a, more(a, 7)}, {more(a, 9, 20), a}, {more(a, 3)}},
		"snapshots":    {{a, snapped(a, 2, 40)}, {more(snapped(a, 3, 10), 5), snapped(a, 4, 0)}, {row(5, 3), {}}},
		"as it was":    {{a, a, {}, {}}, {a, {}, a}, {a, a}},
		"another one":  {{a, row(4, 90)}, {row(5, 80), a}, {row(6, 70), row(7)}},
		"zero, always": {{{}}, {{}, {}}, {{}}},
	} {
		for _, n := range []int{75, 81} {
			t.Run(name, func(t *testing.T) {
				t.Parallel()
				tree{sessions, map[string]bool{}}.grow(t, made(t, n), known{}, 0)
			})
		}
	}
}

// P7.2: logs of several records are there whole, or not at all, whichever write of them is the last one kept.
func TestGreatFalls(t *testing.T) {
	logs := []api.Log{great(2), row(3, 5), more(great(2), 30000, 30000), snapped(great(2), 4, 30000)}
	for i, was := range logs {
		for j, is := range logs {
			if i == j {
				continue
			}
			first := made(t, 22000)
			put(t, opened(t, first), was)
			for hit := 1; ; hit += 97 {
				d, k := first.Fork(), known{safe: was}
				v := k.found(t, d)
				d.Arm(hit)
				on := k.do(t, v, is)
				for less := range 3 {
					d, k := d.Fork(), k
					fallen(t, d, whole(d.Waiting()-less*300)...)
					v := k.found(t, d)
					k.do(t, v, logs[(j+1)%len(logs)])
					fallen(t, d)
					k.found(t, d)
				}
				if on {
					break
				}
			}
		}
	}
}

// someKeep: any tear, more often none, or whole.
func someKeep(r *rand.Rand, waits int) []int {
	keep := make([]int, waits)
	for i := range keep {
		keep[i] = []int{0, api.Sector, api.Sector, r.IntN(api.Sector), 55 + r.IntN(9), r.IntN(20) - 5}[r.IntN(6)]
	}
	if r.IntN(3) == 0 {
		keep = whole(r.IntN(waits + 1))
	}
	return keep
}

// P7.2: long days of many falls, on disks small and great.
func TestManyFalls(t *testing.T) {
	for seed := range uint64(60) {
		t.Run("", func(t *testing.T) {
			t.Parallel()
			r := rand.New(rand.NewPCG(seed, 72))
			d, k := made(t, 75+r.IntN(8)*r.IntN(80)), known{}
			great := 10 + r.IntN(900)
			for range 150 {
				v := k.found(t, d)
				if r.IntN(3) > 0 {
					d.Arm(1 + r.IntN(40))
				}
				for range r.IntN(12) {
					l := someLog(r, k.safe, great)
					for !promised(d, l) {
						l = someLog(r, api.Log{}, great)
					}
					if !k.do(t, v, l) {
						break
					}
				}
				fallen(t, d, someKeep(r, d.Waiting())...)
			}
			put(t, k.found(t, d), row(1, 0))
		})
	}
}

// P7.2: a Put goes down at whatever Write or Flush, and changes nothing that the vault tells; it is down for good, also when the disk is up again.
func TestDownForGood(t *testing.T) {
	for hit := 1; ; hit++ {
		d := made(t, 100)
		v := opened(t, d)
		put(t, v, row(1, 5, 6))
		for i := range 20 { // so that the disk is nearly used up
			put(t, v, row(1, 5, 6, i))
		}
		d.Arm(hit)
		err := v.Put(row(2, 300))
		if !d.Down() {
			answers(t, "Put", err, api.OK)
			break
		}
		for range 3 {
			answers(t, "Put, down", v.Put(row(3)), api.ErrDown)
			answers(t, "Put as it is, down", v.Put(row(1, 5, 6, 19)), api.ErrDown)
			has(t, v, row(1, 5, 6, 19))
			d.Start()
		}
		if d.Waiting() != 0 {
			t.Errorf("P7.2: a vault that is down writes: %d", d.Waiting())
		}
	}
}

// P7.2, W4: opening changes nothing, whatever a fall left, so that opened twice all is as opened once, and a fall that is due comes as if nobody had opened.
func TestOpenOnlyReads(t *testing.T) {
	first := made(t, 22000)
	put(t, opened(t, first), row(1, 5))
	for hit := 1; hit < 1600; hit += 211 {
		d, k := first.Fork(), known{safe: row(1, 5)}
		d.Arm(hit)
		k.do(t, opened(t, d), great(2))
		fallen(t, d, whole(d.Waiting())...)
		before := shown(t, d)
		d.Arm(1)
		k.found(t, d)
		if !bytes.Equal(before, shown(t, d)) || d.Waiting() != 0 || d.Flush() != api.ErrDown {
			t.Error("W4: Open changes what is on the disk")
		}
		fallen(t, d, whole(d.Waiting())...)
		has(t, opened(t, d), k.safe)
	}
}

// P7.2: a fall that the vault was not asked anything in loses nothing that it was told.
func TestFallUnseen(t *testing.T) {
	d := made(t, 100)
	v := opened(t, d)
	for i := range 60 {
		put(t, v, row(uint64(i+1), i))
		fallen(t, d, 64, 3)
		has(t, opened(t, d), row(uint64(i+1), i))
	}
}
