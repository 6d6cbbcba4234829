package wal

import "armoire/api"

// heads is how many sectors, the disk's first ones, have heads, by turns: while one is written, the other one stands.
const heads = 2

// head is where a log begins. All that it speaks of was safe when it was laid, and is not looked at again; what lies behind that is the log's if it has the numbers of this head's own row, which no other head's row has.
type head struct {
	turn  uint64 // it is the turn-th one on its disk; 0: there is none
	first uint64 // the first record's number
	from  int    // where in the ring that record begins
	sure  int    // so many sectors from there on were safe
}

// newest finds the head that counts: the one with the greater number. One that is torn has a number below the one that it should have taken the other's place with: see little.
func (l *Log) newest() error {
	for at := range min(heads, l.d.Size()) {
		b, err := l.read(at)
		if err != nil {
			return err
		}
		if h := headOf(b); h.turn > l.head.turn {
			l.head = h
		}
	}
	return nil
}

// lay makes all that was appended safe, and behind that a head that says so, for which the first n records are gone.
func (l *Log) lay(n int) error {
	// If the head came to the disk, and what it speaks of did not, that would be lost, and more with it.
	if err := l.flush(); err != nil {
		return err
	}
	gone := 0
	for _, b := range l.records[:n] {
		gone += sectors(b)
	}
	h := head{turn: l.head.turn + 1, first: l.head.first + uint64(n), from: (l.head.from + gone) % l.ring(), sure: l.used - gone}
	if err := l.write(int(h.turn%heads), h.sector()); err != nil {
		return err
	}
	// Nothing may be written into the room of what is gone while the head ahead of this one may still come back.
	if err := l.flush(); err != nil {
		return err
	}
	clear(l.records[:n])
	l.head, l.records, l.used, l.ours = h, l.records[n:], h.sure, true
	return nil
}

// sector is a head as it stands on a disk.
func (h head) sector() []byte {
	var body []byte
	for _, n := range []uint64{h.first, uint64(h.from), uint64(h.sure)} {
		body = append(body, little(n)...)
	}
	return sealed(body, h.turn)
}

// headOf is the head that a sector has; none, if what is there cannot be one.
func headOf(b []byte) head {
	from, sure := great(b[word:]), great(b[2*word:])
	if max(from, sure) > api.MaxSectors {
		return head{}
	}
	return head{turn: seal(b), first: great(b), from: int(from), sure: int(sure)}
}
