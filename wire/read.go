package wire

import (
	"armoire/api"
	"armoire/code"
)

const (
	longest = 1 << 16 // bytes of a text
	most    = 5000    // things of a list
)

// reader reads things by their plain bytes. Behind a fault all that it answers is zero.
type reader struct {
	*code.Reader
}

// alone: what one of the reader's methods reads, if it is all that the reader has.
func alone[T any](r reader, one func() T) (T, api.Errno) {
	x := one()
	if e := r.End(); e != api.OK {
		var none T
		return none, e
	}
	return x, api.OK
}

// take reads a field by that method of the reader.
func take[T any](field *T, one func() T) {
	*field = one()
}

// takeList reads a list's field, each thing by that method of the reader.
func takeList[T any](r reader, field *[]T, one func() T) {
	for range r.Small(most) {
		*field = append(*field, one())
		if r.Err() != api.OK {
			// A count is soon written: what is not there shall take no room.
			return
		}
	}
}

func (r reader) whole() int       { return int(r.Int()) }
func (r reader) errno() api.Errno { return api.Errno(r.Int()) }
func (r reader) flag() bool       { return r.Small(1) == 1 }
func (r reader) name() string     { return string(r.Text(longest)) }

// data: a text; one without bytes is none, as a list without anything is.
func (r reader) data() []byte {
	b := r.Text(longest)
	if len(b) == 0 {
		return nil
	}
	return b
}

func (r reader) call() (c api.Call) {
	take(&c.Client, r.Num)
	take(&c.Seq, r.Num)
	take(&c.Data, r.data)
	return c
}

func (r reader) value() (v api.Value) {
	take(&v.Kind, r.whole)
	take(&v.I, r.Int)
	take(&v.S, r.name)
	return v
}

func (r reader) column() (c api.Column) {
	take(&c.Name, r.name)
	take(&c.Kind, r.whole)
	take(&c.Null, r.flag)
	return c
}

func (r reader) table() (t api.Table) {
	take(&t.ID, r.whole)
	take(&t.Name, r.name)
	takeList(r, &t.Columns, r.column)
	takeList(r, &t.Key, r.whole)
	return t
}

func (r reader) index() (x api.Index) {
	take(&x.ID, r.whole)
	take(&x.Table, r.whole)
	take(&x.Name, r.name)
	takeList(r, &x.Columns, r.whole)
	take(&x.Unique, r.flag)
	take(&x.State, r.whole)
	take(&x.Bad, r.flag)
	return x
}

func (r reader) catalog() (c api.Catalog) {
	take(&c.Version, r.whole)
	take(&c.Next, r.whole)
	takeList(r, &c.Tables, r.table)
	takeList(r, &c.Indexes, r.index)
	return c
}

func (r reader) pair() (p api.Pair) {
	take(&p.Key, r.data)
	take(&p.Value, r.data)
	take(&p.Version, r.whole)
	return p
}

func (r reader) write() (x api.Write) {
	take(&x.Key, r.data)
	take(&x.Value, r.data)
	take(&x.Drop, r.flag)
	return x
}

func (r reader) span() (s api.Span) {
	take(&s.From, r.data)
	take(&s.To, r.data)
	return s
}

func (r reader) seen() (s api.Seen) {
	take(&s.Span, r.span)
	takeList(r, &s.Pairs, r.pair)
	return s
}

func (r reader) command() (c api.Command) {
	take(&c.Kind, r.whole)
	take(&c.Epoch, r.whole)
	take(&c.Txn, r.Num)
	take(&c.N, r.whole)
	take(&c.From, r.whole)
	take(&c.To, r.whole)
	take(&c.Flag, r.flag)
	take(&c.Key, r.data)
	take(&c.Span, r.span)
	takeList(r, &c.Pairs, r.pair)
	takeList(r, &c.Seens, r.seen)
	takeList(r, &c.Writes, r.write)
	take(&c.Table, r.table)
	take(&c.Index, r.index)
	take(&c.Name, r.name)
	return c
}

func (r reader) owner() (o api.Owner) {
	take(&o.Group, r.whole)
	take(&o.From, r.data)
	return o
}

func (r reader) routes() (x api.Routes) {
	take(&x.Epoch, r.whole)
	take(&x.Base, r.whole)
	takeList(r, &x.Spans, r.owner)
	take(&x.Moving, r.whole)
	take(&x.Cut, r.data)
	return x
}

func (r reader) reply() (x api.Reply) {
	take(&x.Err, r.errno)
	take(&x.Txn, r.Num)
	take(&x.N, r.whole)
	take(&x.Flag, r.flag)
	takeList(r, &x.Pairs, r.pair)
	takeList(r, &x.Txns, r.Num)
	take(&x.Catalog, r.catalog)
	take(&x.Routes, r.routes)
	return x
}

func (r reader) set() (s api.Set) {
	take(&s.Column, r.whole)
	take(&s.Value, r.value)
	return s
}

func (r reader) op() (o api.Op) {
	take(&o.Kind, r.whole)
	take(&o.Table, r.name)
	take(&o.Index, r.name)
	takeList(r, &o.Row, r.value)
	takeList(r, &o.Key, r.value)
	takeList(r, &o.Set, r.set)
	takeList(r, &o.From, r.value)
	takeList(r, &o.To, r.value)
	take(&o.Limit, r.whole)
	take(&o.Reverse, r.flag)
	takeList(r, &o.Names, r.data)
	return o
}

func (r reader) ask() (a api.Ask) {
	take(&a.Kind, r.whole)
	takeList(r, &a.Ops, r.op)
	take(&a.Table, r.table)
	take(&a.Index, r.index)
	take(&a.Name, r.name)
	take(&a.N, r.whole)
	take(&a.Key, r.data)
	return a
}
