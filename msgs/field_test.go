package msgs_test

import (
	"bytes"
	"encoding/binary"
	"fmt"
	"math"
	"reflect"
	"slices"
	"testing"

	"gavel/api"
	"gavel/msgs"
)

// The bytes that the chapters ask for, made without the project's own packages: a part's bytes are its fields in the order in which api has them, so they can be walked.

// Kinds of fields.
const (
	isInt  = 'i'
	isNum  = 'n'
	isRow  = 'r'
	isHash = 'h'
	isList = 'l' // how many items follow
)

// field is what a writer writes in one call.
type field struct {
	kind rune
	raw  []byte
}

// uvarint is the bytes of one number.
func uvarint(n uint64) []byte {
	return binary.AppendUvarint(nil, n)
}

func row(b []byte) []byte {
	return append(uvarint(uint64(len(b))), b...)
}

// fieldsOf is the fields of a value.
func fieldsOf(v reflect.Value) []field {
	if h, ok := v.Interface().(api.Hash); ok {
		return []field{{isHash, h[:]}}
	}
	switch x := v.Interface().(type) {
	case int:
		return []field{{isInt, uvarint(uint64(max(x, 0)))}}
	case uint64:
		return []field{{isNum, uvarint(x)}}
	case string:
		return []field{{isRow, row([]byte(x))}}
	case []byte:
		return []field{{isRow, row(x)}}
	}
	if v.Kind() == reflect.Slice {
		out := []field{{isList, uvarint(uint64(v.Len()))}}
		for i := range v.Len() {
			out = append(out, fieldsOf(v.Index(i))...)
		}
		return out
	}
	var out []field
	for i := range v.NumField() {
		if v.Type() == reflect.TypeFor[api.Proposal]() && v.Type().Field(i).Name == "Valid" {
			valid := max(v.Field(i).Interface().(int), -1)
			out = append(out, field{isInt, uvarint(uint64(valid) + 1)}) // of -1 it wraps round to 0
			continue
		}
		out = append(out, fieldsOf(v.Field(i))...)
	}
	return out
}

// named is what each kind names.
func named() map[int][]string {
	return map[int][]string{
		1: {"Commit"}, 2: {"Stamp"}, 3: {"Cert"}, 4: {"Ack"}, 5: {"Epoch", "Round", "Time"}, 6: {"Promise"}, 7: {"Proposal"},
		8: {"Vote"}, 9: {"Index", "Entry"}, 10: {"Opening"}, 11: {"Index"}, 12: {"Deny"}, 13: {"Index", "Reply"}, 14: {"Decided"},
	}
}

const kinds = 14

// messageFields is the fields of a message of a kind that there is.
func messageFields(m api.Msg) []field {
	v := reflect.ValueOf(m)
	out := slices.Concat(fieldsOf(v.FieldByName("Kind")), fieldsOf(v.FieldByName("From")), fieldsOf(v.FieldByName("To")))
	for _, name := range named()[m.Kind] {
		out = append(out, fieldsOf(v.FieldByName(name))...)
	}
	return out
}

// join is the bytes of fields.
func join(l []field) []byte {
	var b []byte
	for _, f := range l {
		b = append(b, f.raw...)
	}
	return b
}

// bytesOf is the bytes of a message of a kind that there is.
func bytesOf(m api.Msg) []byte {
	return join(messageFields(m))
}

// replaced is the bytes of fields, but those of field i are raw.
func replaced(l []field, i int, raw []byte) []byte {
	return slices.Concat(join(l[:i]), raw, join(l[i+1:]))
}

// onlyNamed is m with what its kind names, field by field.
func onlyNamed(m api.Msg) api.Msg {
	out := api.Msg{Kind: m.Kind, From: m.From, To: m.To}
	for _, name := range named()[m.Kind] {
		reflect.ValueOf(&out).Elem().FieldByName(name).Set(reflect.ValueOf(m).FieldByName(name))
	}
	return out
}

// fill puts numbers into all that v has, no two of them alike, and size items into each list.
func fill(v reflect.Value, next *int, size int) {
	*next++
	switch {
	case v.Type() == reflect.TypeFor[api.Hash]():
		for i := range v.Len() {
			v.Index(i).SetUint(uint64(byte(*next + 7*i)))
		}
	case v.Kind() == reflect.Int:
		// Of one byte, of several, and near the bound.
		v.SetInt(int64([]int{*next, 1000 + *next, *next, 1<<40 - *next}[*next%4]))
	case v.Kind() == reflect.Uint64:
		v.SetUint(math.MaxUint64 - uint64(*next))
	case v.Kind() == reflect.Uint8:
		v.SetUint(uint64(byte(*next)))
	case v.Kind() == reflect.String:
		v.SetString(fmt.Sprintf("won %d 7\xff\x00", *next))
	case v.Kind() == reflect.Slice:
		l := reflect.MakeSlice(v.Type(), size, size+1)
		for i := range size {
			fill(l.Index(i), next, size)
		}
		fill(l.Slice(0, size+1).Index(size), next, 1) // lies behind its length
		v.Set(l)
	default:
		for i := range v.NumField() {
			fill(v.Field(i), next, size)
		}
	}
}

// full is a message of a kind in which nothing is zero, with so many items in each list.
func full(kind, size int) api.Msg {
	var m api.Msg
	next := 0
	fill(reflect.ValueOf(&m).Elem(), &next, size)
	m.Kind = kind
	return m
}

// shapes is messages of one kind: nothing in it, and lists of several lengths.
func shapes(kind int) []api.Msg {
	l := []api.Msg{{Kind: kind}}
	for _, size := range []int{0, 1, 2, 3} {
		l = append(l, full(kind, size))
	}
	return l
}

// wholes is where the ints of a value stand.
func wholes(v reflect.Value) []*int {
	if v.Kind() == reflect.Int {
		return []*int{v.Addr().Interface().(*int)}
	}
	var out []*int
	switch v.Kind() {
	case reflect.Struct:
		for i := range v.NumField() {
			out = append(out, wholes(v.Field(i))...)
		}
	case reflect.Slice:
		for i := range v.Len() {
			out = append(out, wholes(v.Index(i))...)
		}
	}
	return out
}

// ints is where the ints of a message stand, but its kind.
func ints(m *api.Msg) []*int {
	out := []*int{&m.From, &m.To}
	for _, name := range named()[m.Kind] {
		out = append(out, wholes(reflect.ValueOf(m).Elem().FieldByName(name))...)
	}
	return out
}

// edges is numbers at and past the bounds of ints.
func edges() []int {
	return []int{math.MinInt, -1 << 40, -2, -1, 0, 1, 127, 128, 16383, 16384, 1 << 20, 1<<40 - 2, 1<<40 - 1, 1 << 40, 1<<40 + 1, 1 << 41, math.MaxInt - 1, math.MaxInt}
}

// noKinds is kinds that there are not.
func noKinds() []int {
	return []int{math.MinInt, -1 << 32, -14, -2, -1, 0, 15, 16, 17, 100, 127, 128, 256, 257, 270, 1<<16 + 1, 1<<32 + 1, 1 << 40, 1<<40 + 1, math.MaxInt}
}

// same tells whether two messages are the same, nil and the empty list being so.
func same(a, b api.Msg) bool {
	return equal(reflect.ValueOf(a), reflect.ValueOf(b))
}

func equal(a, b reflect.Value) bool {
	switch a.Kind() {
	case reflect.Struct:
		for i := range a.NumField() {
			if !equal(a.Field(i), b.Field(i)) {
				return false
			}
		}
		return true
	case reflect.Slice:
		if a.Len() != b.Len() {
			return false
		}
		for i := range a.Len() {
			if !equal(a.Index(i), b.Index(i)) {
				return false
			}
		}
		return true
	}
	return a.Equal(b)
}

// brief is the beginning of what is not zero in a message.
func brief(m api.Msg) string {
	s, v := "", reflect.ValueOf(m)
	for i := range v.NumField() {
		if !v.Field(i).IsZero() {
			s += fmt.Sprintf("%s: %+v; ", v.Type().Field(i).Name, v.Field(i))
		}
	}
	return "{" + s[:min(len(s), 400)] + "}"
}

// packs expects that a message's bytes are these.
func packs(t *testing.T, what string, m api.Msg, want []byte) {
	t.Helper()
	if got, ok := msgs.Pack(m); !ok || !bytes.Equal(got, want) {
		t.Errorf("Pack, %s: %x, %v, want %x", what, got, ok, want)
	}
}

// packsNot expects that a message has no bytes.
func packsNot(t *testing.T, what string, m api.Msg) {
	t.Helper()
	if got, ok := msgs.Pack(m); ok || len(got) > 0 {
		t.Errorf("Pack, %s: %d bytes, %v, want none", what, len(got), ok)
	}
}

// unpacks expects that bytes are those of a message.
func unpacks(t *testing.T, what string, b []byte, want api.Msg) {
	t.Helper()
	if got, ok := msgs.Unpack(b); !ok || !same(got, want) {
		t.Errorf("Unpack, %s: %s, %v, want %s", what, brief(got), ok, brief(want))
	}
}

// unpacksNot expects that bytes are those of no message.
func unpacksNot(t *testing.T, what string, b []byte) {
	t.Helper()
	if got, ok := msgs.Unpack(b); ok || !same(got, api.Msg{}) {
		t.Errorf("Unpack, %s: %s, %v, want none", what, brief(got), ok)
	}
}
