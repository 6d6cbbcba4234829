package wire

import (
	"armoire/api"
	"armoire/code"
)

// writer has the plain bytes of what was written so far.
type writer struct {
	out []byte
}

// putList writes how many there are, and each one by that method of the writer.
func putList[T any](w *writer, list []T, one func(T)) {
	w.num(uint64(len(list)))
	for _, x := range list {
		one(x)
	}
}

func (w *writer) num(v uint64)      { w.out = append(w.out, code.Num(v)...) }
func (w *writer) signed(v int64)    { w.out = append(w.out, code.Int(v)...) }
func (w *writer) whole(v int)       { w.signed(int64(v)) }
func (w *writer) errno(e api.Errno) { w.signed(int64(e)) }
func (w *writer) data(b []byte)     { w.out = append(w.out, code.Text(b)...) }
func (w *writer) name(s string)     { w.data([]byte(s)) }

func (w *writer) flag(set bool) {
	if set {
		w.num(1)
		return
	}
	w.num(0)
}

func (w *writer) call(c api.Call) {
	w.num(c.Client)
	w.num(c.Seq)
	w.data(c.Data)
}

func (w *writer) value(v api.Value) {
	w.whole(v.Kind)
	w.signed(v.I)
	w.name(v.S)
}

func (w *writer) column(c api.Column) {
	w.name(c.Name)
	w.whole(c.Kind)
	w.flag(c.Null)
}

func (w *writer) table(t api.Table) {
	w.whole(t.ID)
	w.name(t.Name)
	putList(w, t.Columns, w.column)
	putList(w, t.Key, w.whole)
}

func (w *writer) index(x api.Index) {
	w.whole(x.ID)
	w.whole(x.Table)
	w.name(x.Name)
	putList(w, x.Columns, w.whole)
	w.flag(x.Unique)
	w.whole(x.State)
	w.flag(x.Bad)
}

func (w *writer) catalog(c api.Catalog) {
	w.whole(c.Version)
	w.whole(c.Next)
	putList(w, c.Tables, w.table)
	putList(w, c.Indexes, w.index)
}

func (w *writer) pair(p api.Pair) {
	w.data(p.Key)
	w.data(p.Value)
	w.whole(p.Version)
}

func (w *writer) write(x api.Write) {
	w.data(x.Key)
	w.data(x.Value)
	w.flag(x.Drop)
}

func (w *writer) span(s api.Span) {
	w.data(s.From)
	w.data(s.To)
}

func (w *writer) seen(s api.Seen) {
	w.span(s.Span)
	putList(w, s.Pairs, w.pair)
}

func (w *writer) command(c api.Command) {
	w.whole(c.Kind)
	w.whole(c.Epoch)
	w.num(c.Txn)
	w.whole(c.N)
	w.whole(c.From)
	w.whole(c.To)
	w.flag(c.Flag)
	w.data(c.Key)
	w.span(c.Span)
	putList(w, c.Pairs, w.pair)
	putList(w, c.Seens, w.seen)
	putList(w, c.Writes, w.write)
	w.table(c.Table)
	w.index(c.Index)
	w.name(c.Name)
}

func (w *writer) owner(o api.Owner) {
	w.whole(o.Group)
	w.data(o.From)
}

func (w *writer) routes(r api.Routes) {
	w.whole(r.Epoch)
	w.whole(r.Base)
	putList(w, r.Spans, w.owner)
	w.whole(r.Moving)
	w.data(r.Cut)
}

func (w *writer) reply(r api.Reply) {
	w.errno(r.Err)
	w.num(r.Txn)
	w.whole(r.N)
	w.flag(r.Flag)
	putList(w, r.Pairs, w.pair)
	putList(w, r.Txns, w.num)
	w.catalog(r.Catalog)
	w.routes(r.Routes)
}

func (w *writer) set(s api.Set) {
	w.whole(s.Column)
	w.value(s.Value)
}

func (w *writer) op(o api.Op) {
	w.whole(o.Kind)
	w.name(o.Table)
	w.name(o.Index)
	putList(w, o.Row, w.value)
	putList(w, o.Key, w.value)
	putList(w, o.Set, w.set)
	putList(w, o.From, w.value)
	putList(w, o.To, w.value)
	w.whole(o.Limit)
	w.flag(o.Reverse)
	putList(w, o.Names, w.data)
}

func (w *writer) ask(a api.Ask) {
	w.whole(a.Kind)
	putList(w, a.Ops, w.op)
	w.table(a.Table)
	w.index(a.Index)
	w.name(a.Name)
	w.whole(a.N)
	w.data(a.Key)
}
