package vault

import (
	"slices"

	"armoire/api"
	"armoire/code"
)

// Kinds of a record: what begins with it.
const (
	goesOn = 0 // nothing: the difference of the record ahead goes on
	change = 1 // a difference from the log that is known ahead of it
	whole  = 2 // one from the zero log: nothing ahead of it counts
)

const (
	mark  = "vault"              // stands at the beginning of each record
	head  = 16                   // bytes of a record that stand ahead of its piece, at most
	piece = api.MaxRecord - head // bytes of a difference that a record has, at most
)

// part is what a record tells.
type part struct {
	kind int
	left int // so many records of the same difference are behind it
	body []byte
}

// records is a difference, laid out on as many records as it needs.
func records(kind int, difference []byte) [][]byte {
	var list [][]byte
	left := pieces(len(difference)) - 1
	for body := range slices.Chunk(difference, piece) {
		list = append(list, slices.Concat(code.Text([]byte(mark)), code.Num(uint64(kind)), code.Num(uint64(left)), code.Text(body)))
		kind, left = goesOn, left-1
	}
	return list
}

// pieces is how many records a difference of so many bytes needs.
func pieces(n int) int { return (n + piece - 1) / piece }

// partOf is what a record tells, and whether it is a vault's.
func partOf(b []byte) (part, bool) {
	r := code.New(b)
	marked := string(r.Text(len(mark))) == mark
	p := part{kind: r.Small(whole), left: r.Small(api.MaxSectors), body: r.Text(piece)}
	if !marked || r.End() != api.OK {
		return part{}, false
	}
	return p, true
}

// count is the sectors that a record of so many bytes counts, as the promise of room in a log (P6.5) has it.
func count(n int) int { return (n+39)/40 + 2 }

// counts is the sectors that the records of a difference of so many bytes count, at most.
func counts(n int) int {
	full, rest := n/piece, n%piece
	return full*count(head+piece) + count(head+rest)
}

// thirdOf is a third of the sectors for which a log on a disk of that size promises room. What the vault has takes two of them at most, so that there is always one for a whole copy; a copy takes one at most, so that there is always one behind it for what is to be put.
func thirdOf(size int) int { return (size/2 - 8) / 3 }
