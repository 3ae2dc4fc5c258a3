package msgs_test

import (
	"bytes"
	"encoding/hex"
	"fmt"
	"math"
	"reflect"
	"strings"
	"testing"

	"gavel/api"
	"gavel/msgs"
)

// P6.1: Pack

func rising(first byte) api.Hash {
	var h api.Hash
	for i := range h {
		h[i] = first + byte(i)
	}
	return h
}

const (
	lowHex  = "000102030405060708090a0b0c0d0e0f101112131415161718191a1b1c1d1e1f"
	highHex = "e0e1e2e3e4e5e6e7e8e9eaebecedeeeff0f1f2f3f4f5f6f7f8f9fafbfcfdfeff"
	stampX  = "0203ac02" + lowHex + "ffffffffffffffffff01028201"
	certX   = "03ac02" + lowHex + "05eb0709" + "01" + stampX
	promX   = "0304ac02" + "01" + certX + "030c"
	denyX   = "03c801034d"
	openX   = "c801056269642037" + highHex
	batchX  = "04ac02" + "01" + promX + "01" + openX + "01" + "c801" + "01" + denyX
	voteX   = "02040103" + highHex + "03f403"
)

// known is a message of each kind, with its bytes made by hand.
func known() map[string]api.Msg {
	low, high, n := rising(0), rising(0xe0), api.Name{Client: 3, Seq: 300}
	s := api.Stamp{Replica: 2, Name: n, Hash: low, Time: math.MaxUint64, Sig: api.Sig{By: 2, Mark: 130}}
	x := api.Commit{Name: n, Hash: low, Len: 5, Sig: api.Sig{By: 1003, Mark: 9}}
	c := api.Cert{Commit: x, Stamps: []api.Stamp{s}}
	p := api.Promise{Replica: 3, Epoch: 4, Floor: 300, Certs: []api.Cert{c}, Sig: api.Sig{By: 3, Mark: 12}}
	d := api.Deny{Replica: 3, Index: 200, Sig: api.Sig{By: 3, Mark: 77}}
	o := api.Opening{Index: 200, Payload: []byte("bid 7"), Nonce: high}
	b := api.Batch{Epoch: 4, Time: 300, Promises: []api.Promise{p}, Openings: []api.Opening{o}, Tombs: []api.Tomb{{Index: 200, Denies: []api.Deny{d}}}}
	v := api.Vote{Kind: 2, Epoch: 4, Round: 1, Replica: 3, Hash: high, Sig: api.Sig{By: 3, Mark: 500}}
	return map[string]api.Msg{
		"01eb0702" + "03ac02" + lowHex + "05eb0709":           {Kind: 1, From: 1003, To: 2, Commit: x},
		"0202eb07" + stampX:                                   {Kind: 2, From: 2, To: 1003, Stamp: s},
		"03eb0702" + certX:                                    {Kind: 3, From: 1003, To: 2, Cert: c},
		"0402eb07" + "0203ac02" + lowHex + "808080808020020b": {Kind: 4, From: 2, To: 1003, Ack: api.Ack{Replica: 2, Name: n, Hash: low, Median: 1 << 40, Sig: api.Sig{By: 2, Mark: 11}}},
		"050001" + "04ac02ffffffffffffffffff01":               {Kind: 5, From: 0, To: 1, Epoch: 4, Round: 300, Time: math.MaxUint64},
		"060300" + promX:                                      {Kind: 6, From: 3, To: 0, Promise: p},
		"070201" + "04ac02800102" + batchX + "02ad02":         {Kind: 7, From: 2, To: 1, Proposal: api.Proposal{Epoch: 4, Round: 300, Valid: 127, Replica: 2, Batch: b, Sig: api.Sig{By: 2, Mark: 301}}},
		"080301" + voteX:                                      {Kind: 8, From: 3, To: 1, Vote: v},
		"0902eb07" + "c801" + "03ac02" + highHex + "ac02":     {Kind: 9, From: 2, To: 1003, Index: 200, Entry: api.Entry{Name: n, Hash: high, Time: 300}},
		"0aeb0702" + openX:                                    {Kind: 10, From: 1003, To: 2, Opening: o},
		"0b02eb07" + "c801":                                   {Kind: 11, From: 2, To: 1003, Index: 200},
		"0c0301" + denyX:                                      {Kind: 12, From: 3, To: 1, Deny: d},
		"0d02eb07" + "c801" + "07776f6e20332039":              {Kind: 13, From: 2, To: 1003, Index: 200, Reply: "won 3 9"},
		"0e0203" + "0401" + batchX + "01" + voteX:             {Kind: 14, From: 2, To: 3, Decided: api.Decided{Epoch: 4, Round: 1, Batch: b, Votes: []api.Vote{v}}},
	}
}

func TestPackKnownBytes(t *testing.T) {
	if len(known()) != kinds {
		t.Fatal("not each kind is there")
	}
	for text, m := range known() {
		b, _ := hex.DecodeString(text)
		packs(t, "known", m, b)
		if !bytes.Equal(b, bytesOf(m)) {
			t.Errorf("kind %d: the tests' own bytes are %x, want %x", m.Kind, bytesOf(m), b)
		}
	}
}

func TestPackAllShapes(t *testing.T) {
	for kind := 1; kind <= kinds; kind++ {
		for i, m := range shapes(kind) {
			packs(t, fmt.Sprintf("kind %d, shape %d", kind, i), m, bytesOf(m))
			packs(t, fmt.Sprintf("kind %d, shape %d, Only", kind, i), msgs.Only(m), bytesOf(m))
		}
	}
}

func TestPackOfAKindThatThereIsNot(t *testing.T) {
	for _, kind := range noKinds() {
		for i, m := range shapes(kind) {
			packsNot(t, fmt.Sprintf("kind %d, shape %d", kind, i), m)
		}
	}
	packsNot(t, "nothing", api.Msg{})
}

// Each int of each kind, one by one, at the edges: below 0 it is written as 0, past 2^40 as it is.
func TestPackNumbersAtTheEdges(t *testing.T) {
	for kind := 1; kind <= kinds; kind++ {
		m := onlyNamed(full(kind, 1))
		for i, at := range ints(&m) {
			old := *at
			for _, n := range edges() {
				*at = n
				packs(t, fmt.Sprintf("kind %d, int %d is %d", kind, i, n), m, bytesOf(m))
			}
			*at = old
		}
	}
	for _, time := range []uint64{0, 1, 127, 128, 1 << 40, 1<<40 + 1, 1<<63 - 1, 1 << 63, math.MaxUint64} {
		for _, m := range []api.Msg{
			{Kind: api.MStamp, Stamp: api.Stamp{Time: time}}, {Kind: api.MAck, Ack: api.Ack{Median: time}}, {Kind: api.MClose, Time: time},
			{Kind: api.MPromise, Promise: api.Promise{Floor: time}}, {Kind: api.MProposal, Proposal: api.Proposal{Batch: api.Batch{Time: time}}},
			{Kind: api.MReceipt, Entry: api.Entry{Time: time}}, {Kind: api.MDecided, Decided: api.Decided{Batch: api.Batch{Time: time}}},
		} {
			packs(t, fmt.Sprintf("kind %d, the time %d", m.Kind, time), m, bytesOf(m))
			unpacks(t, fmt.Sprintf("kind %d, the time %d", m.Kind, time), bytesOf(m), m)
		}
	}
}

// Valid is written as one more, so that none (-1) is a number as well; below that as none, past the greatest int it is reckoned on.
func TestPackEachValid(t *testing.T) {
	for valid, want := range map[int]string{
		math.MinInt: "00", -2: "00", -1: "00", 0: "01", 1: "02", 126: "7f", 127: "8001", 1<<40 - 1: "808080808020", 1 << 40: "818080808020",
		math.MaxInt - 1: "ffffffffffffffff7f", math.MaxInt: "80808080808080808001",
	} {
		b, _ := hex.DecodeString("070201" + "0405" + want + "06" + "0000000000" + "0708")
		packs(t, fmt.Sprint("Valid ", valid), api.Msg{Kind: 7, From: 2, To: 1, Proposal: api.Proposal{Epoch: 4, Round: 5, Valid: valid, Replica: 6, Sig: api.Sig{By: 7, Mark: 8}}}, b)
	}
}

func TestPackListsAndRowsPastTheBounds(t *testing.T) {
	for _, n := range []int{99, 100, 101, 128, 300} {
		for i, m := range lists(n) {
			packs(t, fmt.Sprintf("%d items, list %d", n, i), m, bytesOf(m))
		}
	}
	for _, n := range []int{0, 1, 127, 128, 255, 256, 257, 1000, 1 << 14} {
		for _, m := range rows(n) {
			packs(t, fmt.Sprintf("kind %d, a row of %d", m.Kind, n), m, bytesOf(m))
		}
	}
}

// sized is messages of just so many bytes, 60000 at least: of each kind that can have so many.
func sized(size int) []api.Msg {
	l := []api.Msg{
		{Kind: api.MOpening, From: 1001, To: 3, Opening: api.Opening{Index: 5}},
		{Kind: api.MReply, From: 3, To: 1001, Index: 5},
		{Kind: api.MCert, From: 1001, To: 3, Cert: api.Cert{Stamps: make([]api.Stamp, size/45)}},
		{Kind: api.MPromise, From: 3, Promise: api.Promise{Certs: make([]api.Cert, size/45)}},
		{Kind: api.MProposal, From: 3, Proposal: api.Proposal{Batch: api.Batch{Openings: make([]api.Opening, 1)}}},
		{Kind: api.MDecided, From: 3, Decided: api.Decided{Batch: api.Batch{Openings: make([]api.Opening, 1)}, Votes: make([]api.Vote, 1000)}},
	}
	for i := range l {
		m := &l[i]
		missing := size - len(bytesOf(*m))
		payload := make([]byte, missing-2) // its length takes three bytes, of which one is there
		switch m.Kind {
		case api.MOpening:
			m.Opening.Payload = payload
		case api.MReply:
			m.Reply = string(payload)
		case api.MProposal:
			m.Proposal.Batch.Openings[0].Payload = payload
		case api.MDecided:
			m.Decided.Batch.Openings[0].Payload = payload
		default:
			grow(ints(m)[2:], missing)
		}
	}
	return l
}

// grow makes numbers that take a byte each take so many bytes more in all.
func grow(l []*int, missing int) {
	for _, at := range l {
		if n := min(missing, 6); n > 0 {
			*at = 1 << (7 * n)
			missing -= n
		}
	}
}

func TestPackUpToMaxText(t *testing.T) {
	for size, may := range map[int]bool{65534: true, 65535: true, 65536: true, 65537: false, 65538: false, 65636: false, 70000: false, 131072: false, 200000: false} {
		for _, m := range sized(size) {
			b := bytesOf(m)
			if len(b) != size {
				t.Fatalf("kind %d has %d bytes, want %d", m.Kind, len(b), size)
			}
			if what := fmt.Sprintf("kind %d, %d bytes", m.Kind, size); may {
				packs(t, what, m, b)
			} else {
				packsNot(t, what, m)
			}
		}
	}
	packsNot(t, "a great reply", api.Msg{Kind: api.MReply, Reply: strings.Repeat("a", 1<<22)})
}

func TestPackLeavesTheMessageAlone(t *testing.T) {
	for kind := 1; kind <= kinds; kind++ {
		m := full(kind, 2)
		before, want := memory(m), bytesOf(m)
		got, _ := msgs.Pack(m)
		if memory(m) != before {
			t.Errorf("kind %d: the message was changed: %s", kind, brief(m))
		}
		overwrite(reflect.ValueOf(&m).Elem())
		if !bytes.Equal(got, want) {
			t.Errorf("kind %d: the bytes hang on what became of the message", kind)
		}
		m = full(kind, 2)
		again, _ := msgs.Pack(m)
		clear(got[:cap(got)])
		if !bytes.Equal(again, want) || memory(m) != before {
			t.Errorf("kind %d: two answers share memory", kind)
		}
	}
}
