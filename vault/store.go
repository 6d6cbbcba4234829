package vault

import (
	"bytes"
	"slices"
	"strconv"

	"armoire/api"
	"armoire/fault"
)

// reading is a difference whose records are read one by one.
type reading struct {
	kind    int
	left    int // so many records are still to come
	records [][]byte
	body    []byte
}

// take reads the next record, and tells whether a vault may have laid it there.
func (r *reading) take(record []byte) bool {
	p, ok := partOf(record)
	switch {
	case !ok:
		return false
	case p.kind != goesOn:
		// If a fall has taken what is still to come, it never comes: what began with it does not count.
		*r = reading{kind: p.kind}
	case r.left != p.left+1:
		return false
	}
	r.left = p.left
	r.records = append(r.records, record)
	r.body = append(r.body, p.body...)
	return true
}

// load finds what the vault has in the records that are there.
func (v *Vault) load() error {
	v.start = v.w.First()
	known := v.start == 0 // what changes begin with: the zero log, or a copy
	var r reading
	for i, record := range v.w.Records() {
		if !r.take(record) {
			return strange(v.w.First() + uint64(i))
		}
		v.used += count(len(record))
		if r.left > 0 {
			continue
		}
		if r.kind == whole {
			known, v.log = true, api.Log{}
			v.copied(r.records, v.w.First()+uint64(i)+1)
		}
		l, ok := changed(v.log, r.body)
		if !ok || !known {
			return strange(v.w.First() + uint64(i))
		}
		v.log = l
	}
	if !known {
		return strange(v.w.First())
	}
	if r.left > 0 {
		v.tail = r.records
	}
	return nil
}

// strange is what Open answers of a record that no vault has laid.
func strange(number uint64) error {
	return fault.New(api.ErrBad, "record "+strconv.FormatUint(number, 10))
}

// copied: behind these records, which are a whole copy and end ahead of the number next, nothing ahead of them is needed.
func (v *Vault) copied(list [][]byte, next uint64) {
	v.start, v.used = next-uint64(len(list)), 0
	for _, b := range list {
		v.used += count(len(b))
	}
}

// renew lays a whole copy of what the vault has, and takes all away that stands ahead of it.
func (v *Vault) renew() error {
	list := records(whole, difference(api.Log{}, v.log))
	if err := v.lay(list); err != nil {
		return err
	}
	v.copied(list, v.w.Next())
	return v.cut()
}

// lay appends records. Where a fall left the first ones of just these at the end, it goes on with them: so a copy that is begun again and again, between falls, takes the room of one.
func (v *Vault) lay(list [][]byte) error {
	stand := len(v.tail)
	if stand > len(list) || !slices.EqualFunc(v.tail, list[:stand], bytes.Equal) {
		stand = 0
	}
	v.tail = nil
	for _, b := range list[stand:] {
		if e := v.w.Append(b); e != api.OK {
			return fault.New(e, "wal: append")
		}
		v.used += count(len(b))
	}
	return nil
}

// cut takes away what is done with, and lets all else be safe.
func (v *Vault) cut() error { return fault.New(v.w.Cut(v.start), "wal: cut") }

// sync lets all that was laid be safe.
func (v *Vault) sync() error { return fault.New(v.w.Sync(), "wal: sync") }
