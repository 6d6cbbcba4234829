package wire_test

import (
	"reflect"

	"armoire/api"
	"armoire/wire"
)

// kind is one of the five things that have calls of their own.
type kind struct {
	name  string
	of    reflect.Type
	write func(x any) []byte
	take  func(b []byte) (any, api.Errno)
}

func kindOf[T any](name string, write func(T) []byte, take func([]byte) (T, api.Errno)) kind {
	return kind{
		name:  name,
		of:    reflect.TypeFor[T](),
		write: func(x any) []byte { return write(x.(T)) },
		take:  func(b []byte) (any, api.Errno) { x, e := take(b); return x, e },
	}
}

func kinds() []kind {
	return []kind{
		kindOf("Call", wire.Call, wire.TakeCall),
		kindOf("Command", wire.Command, wire.TakeCommand),
		kindOf("Reply", wire.Reply, wire.TakeReply),
		kindOf("Catalog", wire.Catalog, wire.TakeCatalog),
		kindOf("Ask", wire.Ask, wire.TakeAsk),
	}
}

// none is the kind's thing without anything.
func (k kind) none() any { return reflect.Zero(k.of).Interface() }

// full is one whose fields all have something, each something else; its lists have two things each.
func (k kind) full() reflect.Value {
	x := reflect.New(k.of).Elem()
	next := 0
	fill(x, &next)
	return x
}

func fill(x reflect.Value, next *int) {
	*next++
	switch x.Kind() {
	case reflect.Uint64:
		x.SetUint(uint64(*next) * 100)
	case reflect.Uint8:
		x.SetUint(uint64(*next % 256))
	case reflect.Int, reflect.Int64:
		x.SetInt(int64(*next * (1 - *next%2*2) * 9))
	case reflect.Bool:
		x.SetBool(true)
	case reflect.String:
		x.SetString(word(*next))
	case reflect.Slice:
		if bytesOf(x) {
			x.SetBytes([]byte(word(*next)))
			return
		}
		x.Set(reflect.MakeSlice(x.Type(), 2, 2))
		for i := range 2 {
			fill(x.Index(i), next)
		}
	case reflect.Struct:
		for i := range x.NumField() {
			fill(x.Field(i), next)
		}
	default:
		panic("package api has a field of another kind: " + x.Type().String())
	}
}

// word is a text of one to three bytes, of any of them.
func word(n int) string {
	return string([]byte{byte(n), byte(n * 7), byte(n * 31)})[:1+n%3]
}

func bytesOf(x reflect.Value) bool { return x.Type().Elem().Kind() == reflect.Uint8 }

// places are all that is in x, and x, in the order of their plain bytes.
func places(x reflect.Value) []reflect.Value {
	out := []reflect.Value{x}
	switch {
	case x.Kind() == reflect.Struct:
		for i := range x.NumField() {
			out = append(out, places(x.Field(i))...)
		}
	case x.Kind() == reflect.Slice && !bytesOf(x):
		for i := range x.Len() {
			out = append(out, places(x.Index(i))...)
		}
	}
	return out
}
