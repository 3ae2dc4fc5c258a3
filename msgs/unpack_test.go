package msgs_test

import (
	"bytes"
	"encoding/hex"
	"fmt"
	"math"
	"math/rand"
	"reflect"
	"slices"
	"testing"

	"gavel/api"
	"gavel/msgs"
)

// P6.2

func TestUnpackKnownBytes(t *testing.T) {
	for text, m := range known() {
		b, _ := hex.DecodeString(text)
		unpacks(t, "known", b, m)
	}
}

func TestThereAndBack(t *testing.T) {
	for kind := 1; kind <= kinds; kind++ {
		for i, m := range shapes(kind) {
			what := fmt.Sprintf("kind %d, shape %d", kind, i)
			unpacks(t, what, bytesOf(m), onlyNamed(m))
			b, _ := msgs.Pack(m)
			unpacks(t, what+" as it was packed", b, msgs.Only(m))
		}
	}
}

func TestUnpackNothing(t *testing.T) {
	unpacksNot(t, "nil", nil)
	unpacksNot(t, "nothing", []byte{})
	for kind := range 17 {
		unpacksNot(t, fmt.Sprintf("kind %d alone", kind), []byte{byte(kind)})
		unpacksNot(t, fmt.Sprintf("kind %d, From, To alone", kind), []byte{byte(kind), 0, 0})
	}
}

func TestUnpackWithBytesMissing(t *testing.T) {
	for kind := 1; kind <= kinds; kind++ {
		for _, m := range shapes(kind)[:4] {
			b := bytesOf(m)
			for n := range b {
				unpacksNot(t, fmt.Sprintf("kind %d, %d of %d bytes", kind, n, len(b)), b[:n])
			}
			for n := 1; n < len(b); n++ {
				checkOne(t, fmt.Sprintf("kind %d, the first %d bytes missing", kind, n), b[n:])
			}
		}
	}
}

func TestUnpackWithBytesBehind(t *testing.T) {
	for kind := 1; kind <= kinds; kind++ {
		for i, m := range shapes(kind) {
			b := bytesOf(m)
			for _, tail := range [][]byte{{0}, {1}, {0x80}, {0xFF}, {0, 0}, make([]byte, 32), make([]byte, 100), b} {
				unpacksNot(t, fmt.Sprintf("kind %d, shape %d, %x behind it", kind, i, tail), slices.Concat(b, tail))
			}
		}
	}
}

func TestUnpackOfAKindThatThereIsNot(t *testing.T) {
	for kind := 1; kind <= kinds; kind++ {
		for i, m := range shapes(kind) {
			l := messageFields(m)
			for _, other := range noKinds() {
				unpacksNot(t, fmt.Sprintf("kind %d for %d, shape %d", other, kind, i), replaced(l, 0, uvarint(uint64(max(other, 0)))))
			}
		}
	}
	for _, n := range []int{0, 1, 2, 3, 4, 38, 41, 1000} {
		unpacksNot(t, fmt.Sprintf("%d noughts", n), make([]byte, n))
	}
}

func rowOf(n int) []byte {
	return row(bytes.Repeat([]byte{9}, n))
}

// mayBe and mayNotBe: what may stand for a field, and what may not.
func mayBe(kind rune) [][]byte {
	switch kind {
	case isInt:
		return [][]byte{{0}, {1}, {127}, uvarint(128), uvarint(1 << 20), uvarint(1<<40 - 1), uvarint(1 << 40)}
	case isNum:
		return [][]byte{{0}, {1}, {127}, uvarint(128), uvarint(1 << 40), uvarint(1<<40 + 1), uvarint(1 << 63), uvarint(math.MaxUint64)}
	case isRow:
		return [][]byte{rowOf(0), rowOf(1), rowOf(127), rowOf(128), rowOf(255), rowOf(256)}
	case isHash:
		return [][]byte{make([]byte, 32), bytes.Repeat([]byte{0xFF}, 32)}
	}
	return nil
}

func mayNotBe(kind rune) [][]byte {
	// A 0 behind a digit, more than 64 digits, and a number that never ends.
	l := [][]byte{{0x80, 0}, {0x81, 0}, {255, 255, 255, 255, 255, 255, 255, 255, 255, 2}, bytes.Repeat([]byte{0x80}, 40)}
	above := [][]byte{uvarint(1<<40 + 1), uvarint(1 << 41), uvarint(1<<63 - 1), uvarint(1 << 63), uvarint(math.MaxUint64)}
	switch kind {
	case isInt:
		return append(l, above...)
	case isList:
		return append(append(l, above...), uvarint(101), uvarint(102), uvarint(128), uvarint(356))
	case isRow:
		return append(append(l, above...), rowOf(257), rowOf(258), rowOf(1000), rowOf(1<<15))
	case isNum:
		return l
	}
	return nil
}

// Each field of each kind, one by one, is turned to what may be there, and to what may not.
func TestUnpackEachFieldAtAndPastItsBound(t *testing.T) {
	for kind := 1; kind <= kinds; kind++ {
		for i, m := range shapes(kind)[:4] {
			l := messageFields(m)
			for j := 1; j < len(l); j++ { // but the kind
				what := fmt.Sprintf("kind %d, shape %d, field %d (%c) is ", kind, i, j, l[j].kind)
				for _, raw := range mayBe(l[j].kind) {
					b := replaced(l, j, raw)
					if got, ok := msgs.Unpack(b); !ok || !bytes.Equal(bytesOf(got), b) {
						t.Errorf("%s%x: %s, %v", what, raw, brief(got), ok)
					}
				}
				for _, raw := range mayNotBe(l[j].kind) {
					unpacksNot(t, fmt.Sprintf("%s%x", what, raw), replaced(l, j, raw))
				}
			}
		}
	}
}

// Each int of each kind, one by one, there and back: below 0 it comes back as 0, past 2^40 it does not.
func TestNumbersThereAndBack(t *testing.T) {
	for kind := 1; kind <= kinds; kind++ {
		m := onlyNamed(full(kind, 1))
		for i, at := range ints(&m) {
			if at == &m.Proposal.Valid {
				continue
			}
			old := *at
			for _, n := range edges() {
				*at = n
				b, _ := msgs.Pack(m)
				*at = max(n, 0)
				if what := fmt.Sprintf("kind %d, int %d is %d", kind, i, n); n <= 1<<40 {
					unpacks(t, what, b, m)
				} else {
					unpacksNot(t, what, b)
				}
			}
			*at = old
		}
	}
}

// The number that is read is at most 2^40, as all ints: Valid is one less.
func TestValidThereAndBack(t *testing.T) {
	for valid, may := range map[int]bool{
		math.MinInt: true, -2: true, -1: true, 0: true, 1: true, 126: true, 127: true, 1<<40 - 2: true, 1<<40 - 1: true,
		1 << 40: false, 1<<40 + 1: false, math.MaxInt - 1: false, math.MaxInt: false,
	} {
		m := onlyNamed(full(api.MProposal, 2))
		m.Proposal.Valid = valid
		b, _ := msgs.Pack(m)
		if m.Proposal.Valid = max(valid, -1); may {
			unpacks(t, fmt.Sprint("Valid ", valid), b, m)
		} else {
			unpacksNot(t, fmt.Sprint("Valid ", valid), b)
		}
	}
}

// lists is messages with n items in one list each: each list of each kind.
func lists(n int) []api.Msg {
	certs := []api.Cert{{}, {Stamps: make([]api.Stamp, n)}}
	batches := []api.Batch{
		{Promises: make([]api.Promise, n)},
		{Openings: make([]api.Opening, n)},
		{Tombs: make([]api.Tomb, n)},
		{Promises: []api.Promise{{}, {Certs: make([]api.Cert, n)}}},
		{Promises: []api.Promise{{}, {Certs: certs}}},
		{Tombs: []api.Tomb{{}, {Denies: make([]api.Deny, n)}}},
	}
	out := []api.Msg{
		{Kind: api.MCert, Cert: certs[1]},
		{Kind: api.MPromise, Promise: api.Promise{Certs: make([]api.Cert, n)}},
		{Kind: api.MPromise, Promise: api.Promise{Certs: certs}},
		{Kind: api.MDecided, Decided: api.Decided{Votes: make([]api.Vote, n)}},
	}
	for _, b := range batches {
		out = append(out, api.Msg{Kind: api.MProposal, Proposal: api.Proposal{Valid: -1, Batch: b}}, api.Msg{Kind: api.MDecided, Decided: api.Decided{Batch: b}})
	}
	return out
}

// rows is messages with a row of n bytes each: each row of each kind.
func rows(n int) []api.Msg {
	b := bytes.Repeat([]byte{'x'}, n)
	l := []api.Opening{{}, {Payload: b}}
	return []api.Msg{
		{Kind: api.MOpening, Opening: l[1]},
		{Kind: api.MReply, Reply: string(b)},
		{Kind: api.MProposal, Proposal: api.Proposal{Valid: -1, Batch: api.Batch{Openings: l}}},
		{Kind: api.MDecided, Decided: api.Decided{Batch: api.Batch{Openings: l}}},
	}
}

func TestUnpackListsOfAHundredAndOneMore(t *testing.T) {
	for n, may := range map[int]bool{0: true, 1: true, 64: true, 99: true, 100: true, 101: false, 102: false, 128: false, 256: false, 300: false} {
		for i, m := range lists(n) {
			if what := fmt.Sprintf("%d items, list %d", n, i); may {
				unpacks(t, what, bytesOf(m), m)
			} else {
				unpacksNot(t, what, bytesOf(m))
			}
		}
	}
}

func TestUnpackRowsUpToMaxPayload(t *testing.T) {
	for n, may := range map[int]bool{0: true, 1: true, 127: true, 128: true, 255: true, 256: true, 257: false, 258: false, 300: false, 1 << 14: false} {
		for _, m := range rows(n) {
			if what := fmt.Sprintf("kind %d, a row of %d", m.Kind, n); may {
				unpacks(t, what, bytesOf(m), m)
			} else {
				unpacksNot(t, what, bytesOf(m))
			}
		}
	}
}

// A reply is bytes: whether they are text does not matter.
func TestUnpackRepliesOfAllBytes(t *testing.T) {
	all := make([]byte, 256)
	for i := range all {
		all[i] = byte(i)
	}
	for _, reply := range []string{"", "ok", "error 2", "\x00", "\xff\xfe", "\xc3", "nö\n", string(all)} {
		m := api.Msg{Kind: api.MReply, From: 1, To: 1002, Index: 3, Reply: reply}
		unpacks(t, fmt.Sprintf("the reply %q", reply), bytesOf(m), m)
	}
}

// bounded is a message of so many bytes, 40000 at least, that keeps to the bounds of chapter 5.
func bounded(size int) api.Msg {
	b := api.Batch{Openings: make([]api.Opening, 100), Promises: []api.Promise{{Certs: make([]api.Cert, 100)}}}
	m := api.Msg{Kind: api.MDecided, From: 1, To: 2, Decided: api.Decided{Batch: b}}
	missing := size - len(bytesOf(m))
	for i := range b.Promises[0].Certs {
		n := missing / 101 / 38 // a stamp of noughts has 38 bytes
		b.Promises[0].Certs[i].Stamps = make([]api.Stamp, n)
	}
	missing = size - len(bytesOf(m))
	for i := range b.Openings {
		n := min(missing, 127)
		b.Openings[i].Payload = make([]byte, n)
		missing -= n
	}
	return m
}

func TestUnpackUpToMaxText(t *testing.T) {
	for size, may := range map[int]bool{40000: true, 65535: true, 65536: true, 65537: false, 65538: false, 70000: false, 131072: false} {
		m := bounded(size)
		b := bytesOf(m)
		if len(b) != size {
			t.Fatalf("%d bytes, want %d", len(b), size)
		}
		if may {
			unpacks(t, fmt.Sprint(size, " bytes"), b, m)
			packs(t, fmt.Sprint(size, " bytes"), m, b)
		} else {
			unpacksNot(t, fmt.Sprint(size, " bytes"), b)
			packsNot(t, fmt.Sprint(size, " bytes"), m)
		}
	}
	unpacksNot(t, "very many bytes", make([]byte, 1<<24))
}

// checkOne expects of any bytes that they are those of the message that they are read as, or of none.
func checkOne(t *testing.T, what string, b []byte) bool {
	t.Helper()
	m, ok := msgs.Unpack(b)
	if !ok {
		if !same(m, api.Msg{}) {
			t.Errorf("%s: beside false, %s", what, brief(m))
		}
		return false
	}
	if !bytes.Equal(bytesOf(m), b) || !same(m, onlyNamed(m)) {
		t.Errorf("%s: %x was read as %s", what, b, brief(m))
	}
	return true
}

func TestUnpackOfTurnedBytes(t *testing.T) {
	read := 0
	for kind := 1; kind <= kinds; kind++ {
		b := bytesOf(full(kind, 1))
		for i := range b {
			for _, x := range []byte{0, 1, 2, 13, 14, 15, 99, 100, 101, 127, 128, 129, 255} {
				turned := bytes.Clone(b)
				turned[i] = x
				if checkOne(t, fmt.Sprintf("kind %d, byte %d is %d", kind, i, x), turned) {
					read++
				}
			}
		}
	}
	if read < 1000 {
		t.Errorf("only %d were read", read)
	}
}

func TestUnpackOfAnyBytes(t *testing.T) {
	chance := rand.New(rand.NewSource(6))
	read := 0
	for i := range 40000 {
		b := make([]byte, chance.Intn(60))
		for j := range b {
			b[j] = byte(chance.Intn(4)) * byte(chance.Intn(8))
		}
		if len(b) > 0 {
			b[0] = byte(i % 16)
		}
		if checkOne(t, "any bytes", b) {
			read++
		}
	}
	if read < 100 {
		t.Errorf("only %d were read", read)
	}
}

func TestUnpackIsNewMemory(t *testing.T) {
	for kind := 1; kind <= kinds; kind++ {
		m := full(kind, 2)
		b := bytesOf(m)
		behind := slices.Concat(b, []byte{7, 7, 7})[:len(b)]
		first, _ := msgs.Unpack(behind)
		second, _ := msgs.Unpack(behind)
		if !bytes.Equal(behind[:len(b)+3], slices.Concat(b, []byte{7, 7, 7})) {
			t.Errorf("kind %d: the bytes were changed", kind)
		}
		overwrite(reflect.ValueOf(&first).Elem())
		if !bytes.Equal(behind[:len(b)+3], slices.Concat(b, []byte{7, 7, 7})) {
			t.Errorf("kind %d: the answer is a piece of the bytes", kind)
		}
		clear(behind[:cap(behind)])
		if want := onlyNamed(full(kind, 2)); !same(second, want) {
			t.Errorf("kind %d: two answers share memory: %s, want %s", kind, brief(second), brief(want))
		}
	}
}

// extend appends to each list of v, which overwrites a list that lies behind it in its memory.
func extend(v reflect.Value) {
	switch v.Kind() {
	case reflect.Struct:
		for i := range v.NumField() {
			extend(v.Field(i))
		}
	case reflect.Slice:
		for i := range v.Len() {
			extend(v.Index(i))
		}
		reflect.Append(v, reflect.Zero(v.Type().Elem()))
	}
}

func TestListsOfOneAnswerShareNoMemory(t *testing.T) {
	for kind := 1; kind <= kinds; kind++ {
		for size := 1; size < 5; size++ {
			m := onlyNamed(full(kind, size))
			got, _ := msgs.Unpack(bytesOf(m))
			extend(reflect.ValueOf(got))
			only := msgs.Only(m)
			extend(reflect.ValueOf(only))
			if !same(got, m) || !same(only, m) {
				t.Errorf("kind %d, lists of %d: a list lies behind another", kind, size)
			}
		}
	}
}
