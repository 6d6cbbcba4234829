package wal

import (
	"iter"
	"slices"

	"armoire/api"
)

// ring is how many sectors the records have: all behind the heads.
func (l *Log) ring() int { return max(l.d.Size()-heads, 0) }

// place is where on the disk the i-th sector from the head's place on is.
func (l *Log) place(i int) int { return heads + (l.head.from+i)%l.ring() }

// number is what stands at the end of the i-th sector from the head's place on, if it was written behind that head. A row has no more numbers than the ring has sectors: so each number is of one head, and one sector, and is written once.
func (l *Log) number(i int) uint64 {
	return l.head.turn*uint64(l.ring()) + uint64(i-l.head.sure)
}

// piece is the body of the i-th sector from the head's place on; nothing, if it is not the log's.
func (l *Log) piece(i int) ([]byte, error) {
	if i >= l.ring() || l.head.turn == 0 {
		return nil, nil
	}
	b, err := l.read(l.place(i))
	if err != nil {
		return nil, err
	}
	if i >= l.head.sure && seal(b) != l.number(i) {
		return nil, nil
	}
	return b[:room], nil
}

// record is the one that begins in the i-th sector from the head's place on; nothing, if not all its sectors are the log's.
func (l *Log) record(i int) ([]byte, error) {
	b, err := l.piece(i)
	if b == nil {
		return nil, err
	}
	size := great(b)
	if size > api.MaxRecord {
		return nil, nil
	}
	for end := word + int(size); len(b) < end; {
		i++
		more, err := l.piece(i)
		if more == nil {
			return nil, err
		}
		b = append(b, more...)
	}
	return b[word : word+int(size)], nil
}

// sectors is how many sectors a record takes.
func sectors(b []byte) int { return (word + len(b) + room - 1) / room }

// pieces is what the sectors of a record have, one by one: how long it is, and the record.
func pieces(b []byte) iter.Seq[[]byte] {
	return slices.Chunk(append(little(uint64(len(b))), b...), room)
}
