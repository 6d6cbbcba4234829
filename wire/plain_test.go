package wire_test

import (
	"encoding/binary"
	"reflect"

	"armoire/api"
)

// What the chapter says, said again by way of package api's own types: plain writes, and model reads.

// mark is where a number begins among plain bytes, and what it is the number of.
type mark struct {
	at   int
	what string // "num", "int", "bool", "text", "list"
}

// plain is the plain bytes of x, and where its numbers are.
func plain(x reflect.Value) ([]byte, []mark) {
	var b []byte
	var marks []mark
	lay(x, &b, &marks)
	return b, marks
}

func lay(x reflect.Value, b *[]byte, marks *[]mark) {
	num := func(what string, v uint64) {
		*marks = append(*marks, mark{len(*b), what})
		*b = binary.AppendUvarint(*b, v)
	}
	switch x.Kind() {
	case reflect.Uint64:
		num("num", x.Uint())
	case reflect.Int, reflect.Int64:
		*marks = append(*marks, mark{len(*b), "int"})
		*b = binary.AppendVarint(*b, x.Int())
	case reflect.Bool:
		one := map[bool]uint64{true: 1}
		num("bool", one[x.Bool()])
	case reflect.String:
		num("text", uint64(x.Len()))
		*b = append(*b, x.String()...)
	case reflect.Slice:
		if bytesOf(x) {
			num("text", uint64(x.Len()))
			*b = append(*b, x.Bytes()...)
			return
		}
		num("list", uint64(x.Len()))
		for i := range x.Len() {
			lay(x.Index(i), b, marks)
		}
	case reflect.Struct:
		for i := range x.NumField() {
			lay(x.Field(i), b, marks)
		}
	}
}

// model is what Take has to answer of b.
func model(of reflect.Type, b []byte) (any, api.Errno) {
	x := reflect.New(of).Elem()
	e := get(x, &b)
	if e == api.OK && len(b) > 0 {
		e = api.ErrForm
	}
	if e != api.OK {
		return reflect.Zero(of).Interface(), e
	}
	return x.Interface(), api.OK
}

// get reads x from the beginning of b, which goes on.
func get(x reflect.Value, b *[]byte) api.Errno {
	switch x.Kind() {
	case reflect.Struct:
		for i := range x.NumField() {
			if e := get(x.Field(i), b); e != api.OK {
				return e
			}
		}
		return api.OK
	case reflect.String:
		return getText(x, b)
	case reflect.Slice:
		if bytesOf(x) {
			return getText(x, b)
		}
		return getList(x, b)
	}
	v, e := number(b)
	if e != api.OK {
		return e
	}
	switch x.Kind() {
	case reflect.Uint64:
		x.SetUint(v)
	case reflect.Bool:
		if v > 1 {
			return api.ErrForm
		}
		x.SetBool(v == 1)
	default:
		half := int64(v / 2)
		if v%2 == 1 {
			half = -half - 1
		}
		x.SetInt(half)
	}
	return api.OK
}

func getText(x reflect.Value, b *[]byte) api.Errno {
	v, e := number(b)
	switch {
	case e != api.OK:
		return e
	case v > 65536:
		return api.ErrForm
	case v > uint64(len(*b)):
		return api.ErrShort
	case x.Kind() == reflect.String:
		x.SetString(string((*b)[:v]))
	case v > 0:
		x.SetBytes([]byte(string((*b)[:v])))
	}
	*b = (*b)[v:]
	return api.OK
}

func getList(x reflect.Value, b *[]byte) api.Errno {
	v, e := number(b)
	switch {
	case e != api.OK:
		return e
	case v > 5000:
		return api.ErrForm
	}
	for range v {
		one := reflect.New(x.Type().Elem()).Elem()
		if e := get(one, b); e != api.OK {
			return e
		}
		x.Set(reflect.Append(x, one))
	}
	return api.OK
}

// number is chapter 1's Num.
func number(b *[]byte) (uint64, api.Errno) {
	v, n := binary.Uvarint(*b)
	switch {
	case n == 0 && len(*b) < 10:
		return 0, api.ErrShort
	case n <= 0, n > 1 && (*b)[n-1] == 0:
		return 0, api.ErrForm
	}
	*b = (*b)[n:]
	return v, api.OK
}
