package wire_test

import (
	"bytes"
	"crypto/sha256"
	"encoding/hex"
	"math"
	"testing"

	"gavel/api"
	"gavel/code"
	"gavel/wire"
)

// P5.2, P5.3: the Put calls, and BatchHash

func TestPutKnownBytes(t *testing.T) {
	c, p, b := known()
	for _, x := range []struct {
		name, want string
		got        []byte
	}{
		{"Cert", knownCert, certFace.bytes(c)},
		{"Promise", knownPromise, promiseFace.bytes(p)},
		{"Batch", knownBatch, batchFace.bytes(b)},
	} {
		if got := hex.EncodeToString(x.got); got != x.want {
			t.Errorf("Put%s: %s, want %s", x.name, got, x.want)
		}
	}
}

func TestPutAllShapes(t *testing.T) {
	putAll(t, certFace, certs())
	putAll(t, promiseFace, promises())
	putAll(t, batchFace, batches())
	s := &source{}
	putAll(t, certFace, []api.Cert{s.cert(101), s.cert(300)})
	putAll(t, promiseFace, []api.Promise{s.promise(101, 1), s.promise(1, 101)})
	putAll(t, batchFace, []api.Batch{s.batch(0, 101, 0), s.batch(0, 0, 102), s.batch(12, 0, 0)})
}

func putAll[T any](t *testing.T, f face[T], l []T) {
	t.Helper()
	for i, x := range l {
		if got, want := f.bytes(x), encode(f.fields(x)); !bytes.Equal(got, want) {
			t.Errorf("Put%s %d: %x, want %x", f.name, i, got, want)
		}
	}
}

func TestPutNumbersAtTheEdges(t *testing.T) {
	for _, n := range edges() {
		putAll(t, batchFace, []api.Batch{batchOf(n, 5)})
	}
	for _, time := range times() {
		putAll(t, batchFace, []api.Batch{batchOf(3, time)})
	}
}

// batchOf is a batch with each part in it, of which all ints are n, and all times are time.
func batchOf(n int, time uint64) api.Batch {
	s, name := api.Sig{By: n, Mark: n}, api.Name{Client: n, Seq: n}
	c := api.Cert{Commit: api.Commit{Name: name, Len: n, Sig: s}, Stamps: []api.Stamp{{Replica: n, Name: name, Time: time, Sig: s}}}
	return api.Batch{
		Epoch:    n,
		Time:     time,
		Promises: []api.Promise{{Replica: n, Epoch: n, Floor: time, Certs: []api.Cert{c}, Sig: s}},
		Openings: []api.Opening{{Index: n, Payload: []byte("a")}},
		Tombs:    []api.Tomb{{Index: n, Denies: []api.Deny{{Replica: n, Index: n, Sig: s}}}},
	}
}

func TestPutPayloadsOfAllLengths(t *testing.T) {
	for _, size := range []int{0, 1, 127, 128, 255, 256, 257, 1 << 14, 1 << 17} {
		payload := bytes.Repeat([]byte{0xC3}, size)
		putAll(t, batchFace, []api.Batch{{Openings: []api.Opening{{Index: 1, Payload: payload}}}})
	}
}

func TestPutNilAndEmptyListsAreTheSame(t *testing.T) {
	empty := api.Batch{Promises: []api.Promise{}, Openings: []api.Opening{}, Tombs: []api.Tomb{}}
	if got, want := batchFace.bytes(empty), make([]byte, 5); !bytes.Equal(got, want) || !bytes.Equal(batchFace.bytes(api.Batch{}), want) {
		t.Errorf("a batch of nothing: %x", got)
	}
	putAll(t, batchFace, []api.Batch{{
		Promises: []api.Promise{{Certs: []api.Cert{}}, {Certs: []api.Cert{{Stamps: []api.Stamp{}}, {}}}},
		Openings: []api.Opening{{Payload: []byte{}}, {}},
		Tombs:    []api.Tomb{{Denies: []api.Deny{}}, {}},
	}})
}

func TestPutIsBehindWhatIsThere(t *testing.T) {
	c, p, b := known()
	w := code.NewWriter().Num(300)
	wire.PutCert(w, c)
	wire.PutPromise(w, p)
	wire.PutBatch(w, b)
	wire.PutCert(w.Int(7), api.Cert{})
	want := encode(join(num(300), certFields(c), promiseFields(p), batchFields(b), whole(7), certFields(api.Cert{})))
	if got := w.Bytes(); !bytes.Equal(got, want) {
		t.Errorf("%x, want %x", got, want)
	}
}

// spare is l, with one item more in the memory behind its length.
func spare[T any](l []T, behind T) []T {
	return append(l, behind)[:len(l)]
}

func TestPutLeavesThePartAlone(t *testing.T) {
	s := &source{}
	x := s.batch(3, 3, 3)
	x.Promises = spare(x.Promises, s.promise(1, 1))
	x.Promises[2].Certs = spare(x.Promises[2].Certs, s.cert(1))
	x.Promises[2].Certs[0].Stamps = spare(x.Promises[2].Certs[0].Stamps, s.stamp())
	x.Openings = spare(x.Openings, s.opening(4))
	x.Openings[2].Payload = spare(x.Openings[2].Payload, 'z')
	x.Tombs = spare(x.Tombs, s.tomb(1))
	x.Tombs[2].Denies = spare(x.Tombs[2].Denies, api.Deny{Replica: 5})
	all := func() string {
		return brief([]any{x, x.Promises[:4], x.Promises[2].Certs[:3], x.Promises[2].Certs[0].Stamps[:3], x.Openings[:4], x.Openings[2].Payload[:7], x.Tombs[:4], x.Tombs[2].Denies[:3]})
	}
	before, want, w := all(), encode(batchFields(x)), code.NewWriter()
	wire.PutBatch(w, x)
	h, text := wire.BatchHash(x), wire.PromiseText(x.Promises[2])
	if all() != before {
		t.Error("the batch was changed")
	}
	for i := range x.Promises {
		clear(x.Promises[i].Certs)
	}
	clear(x.Openings[2].Payload)
	clear(x.Openings)
	clear(x.Tombs[2].Denies)
	if got := w.Bytes(); !bytes.Equal(got, want) || h != api.Hash(sha256.Sum256(want)) {
		t.Error("what was written hangs on what became of the batch")
	}
	clear(text)
	if got := w.Bytes(); !bytes.Equal(got, want) {
		t.Error("a text is a piece of what was written")
	}
}

func TestBatchHashKnown(t *testing.T) {
	_, _, b := known()
	zero := sha256.Sum256(make([]byte, 5))
	for _, c := range []struct {
		x    api.Batch
		want string
	}{
		{b, knownHash},
		{api.Batch{}, hex.EncodeToString(zero[:])},
		{api.Batch{Promises: []api.Promise{}, Openings: []api.Opening{}, Tombs: []api.Tomb{}}, "8855508aade16ec573d21e6a485dfd0a7624085c1a14b5ecdd6485de0c6839a4"},
	} {
		h := wire.BatchHash(c.x)
		if got := hex.EncodeToString(h[:]); got != c.want {
			t.Errorf("of %s: %s, want %s", brief(c.x), got, c.want)
		}
	}
}

func TestBatchHashOfAllShapes(t *testing.T) {
	l := batches()
	for _, n := range edges() {
		l = append(l, batchOf(n, 5))
	}
	for _, time := range times() {
		l = append(l, batchOf(3, time))
	}
	for _, x := range l {
		if got, want := wire.BatchHash(x), api.Hash(sha256.Sum256(encode(batchFields(x)))); got != want {
			t.Errorf("of %s: %x, want %x", brief(x), got, want)
		}
	}
}

func TestBatchHashHangsOnEachField(t *testing.T) {
	seen := map[api.Hash]string{}
	put := func(what string, x api.Batch) {
		h := wire.BatchHash(x)
		if other, ok := seen[h]; ok {
			t.Errorf("%s and %s have one hash", what, other)
		}
		seen[h] = what
	}
	fresh := func() api.Batch { return (&source{}).batch(3, 3, 3) }
	put("it", fresh())
	for what, turn := range map[string]func(*api.Batch){
		"Epoch": func(x *api.Batch) { x.Epoch++ }, "Time": func(x *api.Batch) { x.Time++ },
		"no promises": func(x *api.Batch) { x.Promises = nil }, "no openings": func(x *api.Batch) { x.Openings = nil }, "no tombs": func(x *api.Batch) { x.Tombs = nil },
		"a promise less": func(x *api.Batch) { x.Promises = x.Promises[:2] }, "promises swapped": func(x *api.Batch) { x.Promises[0], x.Promises[1] = x.Promises[1], x.Promises[0] },
		"promise's mark": func(x *api.Batch) { x.Promises[1].Sig.Mark++ }, "promise's floor": func(x *api.Batch) { x.Promises[0].Floor-- },
		"cert's mark": func(x *api.Batch) { x.Promises[2].Certs[1].Commit.Sig.Mark++ }, "stamp's mark": func(x *api.Batch) { x.Promises[2].Certs[1].Stamps[1].Sig.Mark++ },
		"stamp's time": func(x *api.Batch) { x.Promises[1].Certs[0].Stamps[0].Time-- }, "payload": func(x *api.Batch) { x.Openings[1].Payload[0]++ },
		"nonce": func(x *api.Batch) { x.Openings[0].Nonce[31]++ }, "an opening's index": func(x *api.Batch) { x.Openings[0].Index++ },
		"a tomb's index": func(x *api.Batch) { x.Tombs[0].Index++ }, "a deny's mark": func(x *api.Batch) { x.Tombs[2].Denies[1].Sig.Mark++ }, "a deny less": func(x *api.Batch) { x.Tombs[2].Denies = x.Tombs[2].Denies[:1] },
	} {
		x := fresh()
		turn(&x)
		put(what, x)
	}
	if wire.BatchHash(api.Batch{Epoch: -1}) != wire.BatchHash(api.Batch{}) || wire.BatchHash(api.Batch{Epoch: math.MinInt}) != wire.BatchHash(api.Batch{}) {
		t.Error("an epoch below 0 is not written as 0")
	}
}
