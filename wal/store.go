package wal

import (
	"errors"

	"armoire/api"
	"armoire/fault"
)

// read is what a sector shows.
func (l *Log) read(at int) ([]byte, error) {
	b, e := l.d.Read(at)
	return b, fault.New(e, "wal: read")
}

// write lets a sector's new bytes wait.
func (l *Log) write(at int, b []byte) error {
	e := l.d.Write(at, b)
	l.waits = l.d.Waiting()
	return fault.New(e, "wal: write")
}

// flush keeps all that waits.
func (l *Log) flush() error {
	e := l.d.Flush()
	l.waits = l.d.Waiting()
	return fault.New(e, "wal: flush")
}

// told is what a call answers of an error. A log whose disk went down knows no more what is on it: it does nothing any more.
func (l *Log) told(err error) api.Errno {
	if errors.Is(err, api.ErrDown) {
		l.down = true
	}
	return fault.Code(err)
}
