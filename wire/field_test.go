package wire_test

import (
	"bytes"
	"encoding/binary"
	"fmt"
	"math"
	"slices"
	"testing"

	"gavel/api"
	"gavel/code"
	"gavel/wire"
)

// Kinds of fields.
const (
	isInt  = 'i'
	isNum  = 'n'
	isRow  = 'r'
	isHash = 'h'
	isList = 'l' // how many items follow
)

// field is what a writer writes in one call.
type field struct {
	kind rune
	num  uint64
	raw  []byte
}

func whole(l ...int) []field {
	var out []field
	for _, n := range l {
		out = append(out, field{kind: isInt, num: uint64(max(n, 0))})
	}
	return out
}

func num(n uint64) []field      { return []field{{kind: isNum, num: n}} }
func row(b []byte) []field      { return []field{{kind: isRow, raw: b}} }
func hash(h api.Hash) []field   { return []field{{kind: isHash, raw: h[:]}} }
func sig(s api.Sig) []field     { return whole(s.By, s.Mark) }
func name(n api.Name) []field   { return whole(n.Client, n.Seq) }
func word(text string) []field  { return row([]byte(text)) }
func join(l ...[]field) []field { return slices.Concat(l...) }

func list[T any](l []T, fields func(T) []field) []field {
	out := []field{{kind: isList, num: uint64(len(l))}}
	for _, x := range l {
		out = append(out, fields(x)...)
	}
	return out
}

func commitFields(x api.Commit) []field {
	return join(name(x.Name), hash(x.Hash), whole(x.Len), sig(x.Sig))
}

func stampFields(x api.Stamp) []field {
	return join(whole(x.Replica), name(x.Name), hash(x.Hash), num(x.Time), sig(x.Sig))
}

func certFields(x api.Cert) []field {
	return join(commitFields(x.Commit), list(x.Stamps, stampFields))
}

func promiseFields(x api.Promise) []field {
	return join(whole(x.Replica, x.Epoch), num(x.Floor), list(x.Certs, certFields), sig(x.Sig))
}

func openingFields(x api.Opening) []field {
	return join(whole(x.Index), row(x.Payload), hash(x.Nonce))
}

func denyFields(x api.Deny) []field {
	return join(whole(x.Replica, x.Index), sig(x.Sig))
}

func tombFields(x api.Tomb) []field {
	return join(whole(x.Index), list(x.Denies, denyFields))
}

func batchFields(x api.Batch) []field {
	return join(whole(x.Epoch), num(x.Time), list(x.Promises, promiseFields), list(x.Openings, openingFields), list(x.Tombs, tombFields))
}

// encode is the bytes of fields, without the project's own writer.
func encode(l []field) []byte {
	var b []byte
	for _, f := range l {
		switch f.kind {
		case isInt, isNum, isList:
			b = binary.AppendUvarint(b, f.num)
		case isRow:
			b = append(binary.AppendUvarint(b, uint64(len(f.raw))), f.raw...)
		case isHash:
			b = append(b, f.raw...)
		}
	}
	return b
}

// replaced is the bytes of fields, but those of field i are raw.
func replaced(l []field, i int, raw []byte) []byte {
	return slices.Concat(encode(l[:i]), raw, encode(l[i+1:]))
}

// uvarint is the bytes of one number.
func uvarint(n uint64) []byte {
	return binary.AppendUvarint(nil, n)
}

// face is one part's calls, and what the chapter says of its bytes.
type face[T any] struct {
	name   string
	put    func(*code.Writer, T)
	get    func(*code.Reader) T
	fields func(T) []field
}

var (
	certFace    = face[api.Cert]{"Cert", wire.PutCert, wire.GetCert, certFields}
	promiseFace = face[api.Promise]{"Promise", wire.PutPromise, wire.GetPromise, promiseFields}
	batchFace   = face[api.Batch]{"Batch", wire.PutBatch, wire.GetBatch, batchFields}
)

// bytes is what put writes.
func (f face[T]) bytes(x T) []byte {
	w := code.NewWriter()
	f.put(w, x)
	return w.Bytes()
}

// reads expects that want is read from b, and nothing is left.
func (f face[T]) reads(t *testing.T, what string, b []byte, want T) {
	t.Helper()
	r := code.NewReader(b)
	if got := f.get(r); !same(got, want) || !r.OK() || r.Left() != 0 {
		t.Errorf("Get%s, %s: %s, OK %v, %d left, want %s", f.name, what, brief(got), r.OK(), r.Left(), brief(want))
	}
}

// fails expects that the reader of b fails over it, and the zero value.
func (f face[T]) fails(t *testing.T, what string, b []byte) {
	t.Helper()
	var zero T
	r := code.NewReader(b)
	if got := f.get(r); !same(got, zero) || r.OK() || r.Left() != 0 {
		t.Errorf("Get%s, %s: %s, OK %v, %d left, want none", f.name, what, brief(got), r.OK(), r.Left())
	}
}

// same tells whether two parts are the same, nil and the empty list being so.
func same(a, b any) bool {
	return fmt.Sprintf("%+v", a) == fmt.Sprintf("%+v", b)
}

// brief is the beginning of x told.
func brief(x any) string {
	s := fmt.Sprintf("%+v", x)
	return s[:min(len(s), 400)]
}

// source gives numbers, no two of them alike.
type source struct{ last int }

func (s *source) int() int {
	s.last++
	// Of one byte, of several, and at the bound.
	switch s.last % 4 {
	case 0:
		return 1<<40 - s.last
	case 1:
		return 1000 + s.last
	}
	return s.last
}

func (s *source) num() uint64 {
	s.last++
	return math.MaxUint64 - uint64(s.last)
}

func (s *source) hash() api.Hash {
	s.last++
	var h api.Hash
	for i := range h {
		h[i] = byte(s.last + 7*i)
	}
	return h
}

func (s *source) sig() api.Sig   { return api.Sig{By: s.int(), Mark: s.int()} }
func (s *source) name() api.Name { return api.Name{Client: s.int(), Seq: s.int()} }

func (s *source) stamp() api.Stamp {
	return api.Stamp{Replica: s.int(), Name: s.name(), Hash: s.hash(), Time: s.num(), Sig: s.sig()}
}

func (s *source) cert(stamps int) api.Cert {
	x := api.Cert{Commit: api.Commit{Name: s.name(), Hash: s.hash(), Len: s.int(), Sig: s.sig()}}
	for range stamps {
		x.Stamps = append(x.Stamps, s.stamp())
	}
	return x
}

func (s *source) promise(certs, stamps int) api.Promise {
	x := api.Promise{Replica: s.int(), Epoch: s.int(), Floor: s.num(), Sig: s.sig()}
	for range certs {
		x.Certs = append(x.Certs, s.cert(stamps))
	}
	return x
}

func (s *source) opening(size int) api.Opening {
	return api.Opening{Index: s.int(), Payload: bytes.Repeat([]byte{byte(s.int())}, size), Nonce: s.hash()}
}

func (s *source) tomb(denies int) api.Tomb {
	x := api.Tomb{Index: s.int()}
	for range denies {
		x.Denies = append(x.Denies, api.Deny{Replica: s.int(), Index: s.int(), Sig: s.sig()})
	}
	return x
}

func (s *source) batch(promises, openings, tombs int) api.Batch {
	x := api.Batch{Epoch: s.int(), Time: s.num()}
	for i := range promises {
		x.Promises = append(x.Promises, s.promise(i, 2))
	}
	for i := range openings {
		x.Openings = append(x.Openings, s.opening(3*i))
	}
	for i := range tombs {
		x.Tombs = append(x.Tombs, s.tomb(i))
	}
	return x
}

// certs, promises, batches: parts of all shapes, and the zero value.
func certs() []api.Cert {
	s := &source{}
	return []api.Cert{{}, s.cert(0), s.cert(1), s.cert(2), s.cert(43), s.cert(100)}
}

func promises() []api.Promise {
	s := &source{}
	return []api.Promise{{}, s.promise(0, 0), s.promise(1, 0), s.promise(1, 3), s.promise(3, 2), s.promise(64, 3), s.promise(100, 1)}
}

func batches() []api.Batch {
	s := &source{}
	return []api.Batch{{}, s.batch(0, 0, 0), s.batch(1, 0, 0), s.batch(0, 1, 0), s.batch(0, 0, 1), s.batch(3, 3, 3), s.batch(2, 86, 64), s.batch(5, 1, 100)}
}

// known is a batch, its certificate and its promise, whose bytes were made by hand.
func known() (api.Cert, api.Promise, api.Batch) {
	var low, high api.Hash
	for i := range low {
		low[i], high[i] = byte(i), byte(0xe0+i)
	}
	n := api.Name{Client: 3, Seq: 300}
	c := api.Cert{
		Commit: api.Commit{Name: n, Hash: low, Len: 5, Sig: api.Sig{By: 1003, Mark: 9}},
		Stamps: []api.Stamp{
			{Replica: 2, Name: n, Hash: low, Time: math.MaxUint64, Sig: api.Sig{By: 2, Mark: 130}},
			{Replica: 3, Name: n, Hash: high, Time: 0, Sig: api.Sig{By: 4, Mark: 1}},
		},
	}
	p := api.Promise{Replica: 1, Epoch: 4, Floor: 1 << 63, Certs: []api.Cert{c}, Sig: api.Sig{By: 1, Mark: 128}}
	return c, p, api.Batch{
		Epoch:    4,
		Time:     1 << 63,
		Promises: []api.Promise{p},
		Openings: []api.Opening{{Index: 200, Payload: []byte("bid 7"), Nonce: high}},
		Tombs:    []api.Tomb{{Index: 201, Denies: []api.Deny{{Replica: 3, Index: 200, Sig: api.Sig{By: 3, Mark: 77}}}}},
	}
}

const (
	knownCert    = "03ac02000102030405060708090a0b0c0d0e0f101112131415161718191a1b1c1d1e1f05eb0709020203ac02000102030405060708090a0b0c0d0e0f101112131415161718191a1b1c1d1e1fffffffffffffffffff010282010303ac02e0e1e2e3e4e5e6e7e8e9eaebecedeeeff0f1f2f3f4f5f6f7f8f9fafbfcfdfeff000401"
	knownFields  = "01048080808080808080800101" + knownCert // of the promise: all but its signature
	knownPromise = knownFields + "018001"
	knownBatch   = "048080808080808080800101" + knownPromise + "01c801056269642037e0e1e2e3e4e5e6e7e8e9eaebecedeeeff0f1f2f3f4f5f6f7f8f9fafbfcfdfeff" + "01c9010103c801034d"
	knownHash    = "74ccf647b2f9c2b8ac8d9c685b6a710075e3d0ebf1caf93dab35976b59385a90"
)

// edges are the ints about which something begins or ends: of what a writer writes, of what a byte holds, of what is read, of int.
func edges() []int {
	return []int{
		math.MinInt, math.MinInt + 1, -1 << 40, -128, -2, -1, 0, 1, 2, 20, 21, 22, 99, 100, 101, 127, 128, 255, 256, 257, 300, 1000,
		1<<14 - 1, 1 << 14, api.MaxRound, api.MaxRound + 1, 1 << 32, 1<<40 - 1, 1 << 40, 1<<40 + 1, 1 << 62, math.MaxInt - 1, math.MaxInt,
	}
}

// times are the same of times.
func times() []uint64 {
	return []uint64{0, 1, 127, 128, 1 << 14, 1 << 40, 1<<40 + 1, math.MaxInt64, 1 << 63, math.MaxUint64 - 1, math.MaxUint64}
}
