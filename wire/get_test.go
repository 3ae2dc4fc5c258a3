package wire_test

import (
	"bytes"
	"encoding/hex"
	"fmt"
	"math"
	"testing"

	"gavel/api"
	"gavel/code"
	"gavel/wire"
)

// P5.3: the Get calls

func TestGetAllShapesBack(t *testing.T) {
	getAll(t, certFace, certs())
	getAll(t, promiseFace, promises())
	getAll(t, batchFace, batches())
}

func getAll[T any](t *testing.T, f face[T], l []T) {
	t.Helper()
	for i, x := range l {
		f.reads(t, fmt.Sprintf("shape %d", i), encode(f.fields(x)), x)
		f.reads(t, fmt.Sprintf("shape %d as it was put", i), f.bytes(x), x)
	}
}

func TestGetKnownBytes(t *testing.T) {
	c, p, b := known()
	certFace.reads(t, "known", unhex(t, knownCert), c)
	promiseFace.reads(t, "known", unhex(t, knownPromise), p)
	batchFace.reads(t, "known", unhex(t, knownBatch), b)
}

func unhex(t *testing.T, s string) []byte {
	b, err := hex.DecodeString(s)
	if err != nil {
		t.Fatal(err)
	}
	return b
}

func TestGetNumbersAtTheEdges(t *testing.T) {
	for _, n := range edges() {
		x := batchOf(n, 5)
		if n > 1<<40 {
			batchFace.fails(t, fmt.Sprint("ints of ", n), encode(batchFields(x)))
			continue
		}
		batchFace.reads(t, fmt.Sprint("ints of ", n), encode(batchFields(x)), batchOf(max(n, 0), 5))
	}
	for _, time := range times() {
		x := batchOf(3, time)
		batchFace.reads(t, fmt.Sprint("times of ", time), encode(batchFields(x)), x)
	}
}

func TestGetEachFieldPastItsBound(t *testing.T) {
	c, p, b := known()
	fieldsPast(t, certFace, c)
	fieldsPast(t, promiseFace, p)
	fieldsPast(t, batchFace, b)
	s := &source{}
	fieldsPast(t, batchFace, s.batch(3, 3, 3))
}

// fieldsPast turns each field for itself to what may be there, and to what may not.
func fieldsPast[T any](t *testing.T, f face[T], x T) {
	t.Helper()
	l := f.fields(x)
	for i, one := range l {
		for _, raw := range mayBe(one.kind) {
			b := replaced(l, i, raw)
			r := code.NewReader(b)
			if got := f.get(r); !r.OK() || r.Left() != 0 || !bytes.Equal(encode(f.fields(got)), b) {
				t.Errorf("Get%s, field %d (%c) is %x: %s, OK %v, %d left", f.name, i, one.kind, raw, brief(got), r.OK(), r.Left())
			}
		}
		for _, raw := range mayNotBe(one.kind) {
			f.fails(t, fmt.Sprintf("field %d (%c) is %x", i, one.kind, raw), replaced(l, i, raw))
		}
	}
}

// rowOf is a row of n bytes.
func rowOf(n int) []byte {
	return append(uvarint(uint64(n)), bytes.Repeat([]byte{9}, n)...)
}

func mayBe(kind rune) [][]byte {
	switch kind {
	case isInt:
		return [][]byte{{0}, {1}, {127}, uvarint(128), uvarint(1 << 20), uvarint(1<<40 - 1), uvarint(1 << 40)}
	case isNum:
		return [][]byte{{0}, {1}, {127}, uvarint(128), uvarint(1 << 40), uvarint(1<<40 + 1), uvarint(1 << 63), uvarint(math.MaxUint64)}
	case isRow:
		return [][]byte{rowOf(0), rowOf(1), rowOf(128), rowOf(255), rowOf(256)}
	}
	return nil
}

func mayNotBe(kind rune) [][]byte {
	// A 0 behind a digit, more than 64 digits, and a number that never ends.
	l := [][]byte{{0x80, 0}, {0x81, 0}, {255, 255, 255, 255, 255, 255, 255, 255, 255, 2}, bytes.Repeat([]byte{0x80}, 40)}
	above := [][]byte{uvarint(1<<40 + 1), uvarint(1 << 41), uvarint(1<<63 - 1), uvarint(1 << 63), uvarint(math.MaxUint64)}
	switch kind {
	case isInt:
		return append(l, above...)
	case isList:
		return append(append(l, above...), uvarint(101), uvarint(102), uvarint(128), uvarint(356))
	case isRow:
		return append(append(l, above...), rowOf(257), rowOf(258), rowOf(1000), rowOf(1<<16))
	case isNum:
		return l
	}
	return nil
}

func TestGetListsOfAHundredAndOneMore(t *testing.T) {
	s := &source{}
	for n, may := range map[int]bool{99: true, 100: true, 101: false, 102: false, 128: false, 256: false, 1000: false} {
		for what, x := range map[string]api.Batch{
			"promises": {Promises: make([]api.Promise, n)},
			"openings": {Openings: make([]api.Opening, n)},
			"tombs":    {Tombs: make([]api.Tomb, n)},
			"certs":    {Promises: []api.Promise{s.promise(1, 1), s.promise(n, 0)}},
			"stamps":   {Promises: []api.Promise{s.promise(2, n)}},
			"denies":   {Tombs: []api.Tomb{s.tomb(1), s.tomb(n)}},
		} {
			getList(t, batchFace, fmt.Sprint(n, " ", what), x, may)
		}
		getList(t, promiseFace, fmt.Sprint(n, " certs"), s.promise(n, 0), may)
		getList(t, promiseFace, fmt.Sprint(n, " stamps"), s.promise(2, n), may)
		getList(t, certFace, fmt.Sprint(n, " stamps"), s.cert(n), may)
	}
}

func getList[T any](t *testing.T, f face[T], what string, x T, may bool) {
	t.Helper()
	if b := encode(f.fields(x)); may {
		f.reads(t, what, b, x)
	} else {
		f.fails(t, what, b)
	}
}

func TestGetListsWithinListsAllFull(t *testing.T) {
	x := api.Batch{Promises: make([]api.Promise, 100), Openings: make([]api.Opening, 100), Tombs: make([]api.Tomb, 100)}
	for i := range x.Promises {
		x.Promises[i].Certs = make([]api.Cert, 100)
		x.Promises[i].Certs[99].Stamps = make([]api.Stamp, 100)
		x.Openings[i].Payload = make([]byte, 256)
		x.Tombs[i].Denies = make([]api.Deny, 100)
	}
	batchFace.reads(t, "full", batchFace.bytes(x), x)
}

func TestGetWithBytesMissing(t *testing.T) {
	c, p, b := known()
	allPrefixes(t, certFace, c)
	allPrefixes(t, promiseFace, p)
	allPrefixes(t, batchFace, b)
	s := &source{}
	allPrefixes(t, certFace, s.cert(3))
	allPrefixes(t, promiseFace, s.promise(2, 2))
	allPrefixes(t, batchFace, s.batch(3, 3, 3))
	allPrefixes(t, certFace, api.Cert{})
	allPrefixes(t, promiseFace, api.Promise{})
	allPrefixes(t, batchFace, api.Batch{})
}

func allPrefixes[T any](t *testing.T, f face[T], x T) {
	t.Helper()
	b := encode(f.fields(x))
	for n := range b {
		f.fails(t, fmt.Sprintf("%d of %d bytes", n, len(b)), b[:n])
	}
	f.fails(t, "the first byte missing, and others behind it", append([]byte{0x80, 0}, b...))
}

func TestGetLeavesWhatIsBehind(t *testing.T) {
	c, p, b := known()
	bytes := encode(join(whole(5), certFields(c), promiseFields(p), batchFields(b), certFields(api.Cert{}), whole(6)))
	r := code.NewReader(append(bytes, 0xFF, 0xFF))
	first := r.Int(9)
	gotCert, gotPromise, gotBatch, gotZero := wire.GetCert(r), wire.GetPromise(r), wire.GetBatch(r), wire.GetCert(r)
	if first != 5 || !same(gotCert, c) || !same(gotPromise, p) || !same(gotBatch, b) || !same(gotZero, api.Cert{}) {
		t.Error("one behind the other they are not read back")
	}
	if r.Int(9) != 6 || r.Left() != 2 || !r.OK() {
		t.Errorf("%d bytes are left", r.Left())
	}
}

func TestGetOfAFailedReader(t *testing.T) {
	c, p, b := known()
	failedFirst(t, certFace, c)
	failedFirst(t, promiseFace, p)
	failedFirst(t, batchFace, b)
}

func failedFirst[T any](t *testing.T, f face[T], x T) {
	t.Helper()
	var zero T
	r := code.NewReader(append([]byte{5}, f.bytes(x)...))
	r.Int(4)
	for range 3 {
		if got := f.get(r); !same(got, zero) || r.OK() || r.Left() != 0 {
			t.Errorf("Get%s of a failed reader: %s", f.name, brief(got))
		}
	}
}

func TestGetFailsForGood(t *testing.T) {
	c, _, _ := known()
	b := encode(certFields(c))
	r := code.NewReader(append(append([]byte{0x80, 0}, b...), b...))
	if wire.GetCert(r); r.OK() {
		t.Fatal("it has not failed")
	}
	if got := wire.GetCert(r); !same(got, api.Cert{}) || r.OK() {
		t.Errorf("behind a failure: %s", brief(got))
	}
}

func TestGetAnswersNewMemory(t *testing.T) {
	x := (&source{}).batch(3, 3, 3)
	b := batchFace.bytes(x)
	first, second := wire.GetBatch(code.NewReader(b)), wire.GetBatch(code.NewReader(b))
	clear(b)
	for _, p := range first.Promises {
		for _, c := range p.Certs {
			clear(c.Stamps[:cap(c.Stamps)])
		}
		clear(p.Certs[:cap(p.Certs)])
	}
	for _, o := range first.Openings {
		clear(o.Payload[:cap(o.Payload)])
	}
	for _, d := range first.Tombs {
		clear(d.Denies[:cap(d.Denies)])
	}
	if !same(second, x) {
		t.Errorf("two answers share memory: %s, want %s", brief(second), brief(x))
	}
}

func TestGetListsShareNoMemory(t *testing.T) {
	x := (&source{}).batch(4, 4, 4)
	got := wire.GetBatch(code.NewReader(batchFace.bytes(x)))
	for _, p := range got.Promises {
		_ = append(p.Certs, api.Cert{})
		for _, c := range p.Certs {
			_ = append(c.Stamps, api.Stamp{})
		}
	}
	for _, o := range got.Openings {
		_ = append(o.Payload, 1, 2, 3)
	}
	for _, d := range got.Tombs {
		_ = append(d.Denies, api.Deny{})
	}
	if !same(got, x) {
		t.Errorf("a list lies behind another: %s, want %s", brief(got), brief(x))
	}
}
