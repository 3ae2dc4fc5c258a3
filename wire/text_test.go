package wire_test

import (
	"bytes"
	"encoding/hex"
	"math"
	"slices"
	"testing"

	"gavel/api"
	"gavel/wire"
)

// P5.4: the texts

func TestTextsKnown(t *testing.T) {
	c, p, b := known()
	s, n := c.Stamps[0], api.Name{Client: 3, Seq: 300}
	for _, x := range []struct {
		name, want string
		got        []byte
	}{
		{"Stamp", "057374616d700203ac02000102030405060708090a0b0c0d0e0f101112131415161718191a1b1c1d1e1fffffffffffffffffff01", wire.StampText(s)},
		{"Ack", "0361636b0203ac02000102030405060708090a0b0c0d0e0f101112131415161718191a1b1c1d1e1f808080808020", wire.AckText(api.Ack{Replica: 2, Name: n, Hash: s.Hash, Median: 1 << 40, Sig: s.Sig})},
		{"Promise", "0770726f6d697365" + knownFields, wire.PromiseText(p)},
		{"Deny", "0464656e7903c801", wire.DenyText(b.Tombs[0].Denies[0])},
		{"Proposal", "0870726f706f73616c04ac02800102" + knownHash, wire.ProposalText(api.Proposal{Epoch: 4, Round: 300, Valid: 127, Replica: 2, Batch: b, Sig: s.Sig})},
		{"Vote", "04766f746502040103e0e1e2e3e4e5e6e7e8e9eaebecedeeeff0f1f2f3f4f5f6f7f8f9fafbfcfdfeff", wire.VoteText(api.Vote{Kind: 2, Epoch: 4, Round: 1, Replica: 3, Hash: c.Stamps[1].Hash, Sig: s.Sig})},
	} {
		if got := hex.EncodeToString(x.got); got != x.want {
			t.Errorf("%sText: %s, want %s", x.name, got, x.want)
		}
	}
}

// unsigned is fields without the two of a signature at their end.
func unsigned(l []field) []field {
	return l[:len(l)-2]
}

func ackTextFields(x api.Ack) []field {
	return join(word("ack"), whole(x.Replica), name(x.Name), hash(x.Hash), num(x.Median))
}

func voteTextFields(x api.Vote) []field {
	return join(word("vote"), whole(x.Kind, x.Epoch, x.Round, x.Replica), hash(x.Hash))
}

func proposalTextFields(x api.Proposal) []field {
	valid := num(uint64(max(x.Valid, -1)) + 1) // of -1 it wraps round to 0
	return join(word("proposal"), whole(x.Epoch, x.Round), valid, whole(x.Replica), hash(wire.BatchHash(x.Batch)))
}

// expect holds a text against the fields that the chapter names.
func expect(t *testing.T, name string, x any, got []byte, want []field) {
	t.Helper()
	if b := encode(want); !bytes.Equal(got, b) {
		t.Errorf("%sText of %s: %x, want %x", name, brief(x), got, b)
	}
}

func expectStamp(t *testing.T, x api.Stamp) {
	t.Helper()
	expect(t, "Stamp", x, wire.StampText(x), join(word("stamp"), unsigned(stampFields(x))))
}

func expectAck(t *testing.T, x api.Ack) {
	t.Helper()
	expect(t, "Ack", x, wire.AckText(x), ackTextFields(x))
}

func expectPromise(t *testing.T, x api.Promise) {
	t.Helper()
	expect(t, "Promise", x, wire.PromiseText(x), join(word("promise"), unsigned(promiseFields(x))))
}

func expectDeny(t *testing.T, x api.Deny) {
	t.Helper()
	expect(t, "Deny", x, wire.DenyText(x), join(word("deny"), unsigned(denyFields(x))))
}

func expectProposal(t *testing.T, x api.Proposal) {
	t.Helper()
	expect(t, "Proposal", x, wire.ProposalText(x), proposalTextFields(x))
}

func expectVote(t *testing.T, x api.Vote) {
	t.Helper()
	expect(t, "Vote", x, wire.VoteText(x), voteTextFields(x))
}

func TestTextsOfUnlikeFields(t *testing.T) {
	s := &source{}
	expectStamp(t, api.Stamp{})
	expectStamp(t, s.stamp())
	expectAck(t, api.Ack{})
	expectAck(t, api.Ack{Replica: s.int(), Name: s.name(), Hash: s.hash(), Median: s.num(), Sig: s.sig()})
	for _, x := range promises() {
		expectPromise(t, x)
	}
	expectPromise(t, s.promise(101, 1))
	expectPromise(t, api.Promise{Certs: []api.Cert{{Stamps: []api.Stamp{}}}})
	expectDeny(t, api.Deny{})
	expectDeny(t, api.Deny{Replica: s.int(), Index: s.int(), Sig: s.sig()})
	for _, x := range batches() {
		expectProposal(t, api.Proposal{Epoch: s.int(), Round: s.int(), Valid: s.int(), Replica: s.int(), Batch: x, Sig: s.sig()})
		expectProposal(t, api.Proposal{Batch: x})
	}
	expectVote(t, api.Vote{})
	expectVote(t, api.Vote{Kind: s.int(), Epoch: s.int(), Round: s.int(), Replica: s.int(), Hash: s.hash(), Sig: s.sig()})
}

func TestTextsAtTheEdges(t *testing.T) {
	for _, n := range edges() {
		expectStamp(t, api.Stamp{Replica: n, Name: api.Name{Client: 2, Seq: 3}})
		expectStamp(t, api.Stamp{Replica: 1, Name: api.Name{Client: n, Seq: 3}})
		expectStamp(t, api.Stamp{Replica: 1, Name: api.Name{Client: 2, Seq: n}})
		expectAck(t, api.Ack{Replica: n, Name: api.Name{Client: 2, Seq: 3}})
		expectAck(t, api.Ack{Replica: 1, Name: api.Name{Client: n, Seq: 3}})
		expectAck(t, api.Ack{Replica: 1, Name: api.Name{Client: 2, Seq: n}})
		expectPromise(t, api.Promise{Replica: n, Epoch: 2})
		expectPromise(t, api.Promise{Replica: 1, Epoch: n})
		expectPromise(t, batchOf(n, 4).Promises[0])
		expectDeny(t, api.Deny{Replica: n, Index: 2})
		expectDeny(t, api.Deny{Replica: 1, Index: n})
		expectProposal(t, api.Proposal{Epoch: n, Round: 2, Valid: 3, Replica: 4})
		expectProposal(t, api.Proposal{Epoch: 1, Round: n, Valid: 3, Replica: 4})
		expectProposal(t, api.Proposal{Epoch: 1, Round: 2, Valid: n, Replica: 4})
		expectProposal(t, api.Proposal{Epoch: 1, Round: 2, Valid: 3, Replica: n})
		expectProposal(t, api.Proposal{Epoch: 1, Round: 2, Valid: 3, Replica: 4, Batch: batchOf(n, 4)})
		expectVote(t, api.Vote{Kind: n, Epoch: 2, Round: 3, Replica: 4})
		expectVote(t, api.Vote{Kind: 1, Epoch: n, Round: 3, Replica: 4})
		expectVote(t, api.Vote{Kind: 1, Epoch: 2, Round: n, Replica: 4})
		expectVote(t, api.Vote{Kind: 1, Epoch: 2, Round: 3, Replica: n})
	}
	for _, time := range times() {
		expectStamp(t, api.Stamp{Time: time})
		expectAck(t, api.Ack{Median: time})
		expectPromise(t, api.Promise{Floor: time})
	}
}

// The field is one more than Valid, so that none (-1) is a number as well; past the greatest int it is reckoned on.
func TestProposalTextOfEachValid(t *testing.T) {
	for valid, want := range map[int]uint64{
		math.MinInt: 0, math.MinInt + 1: 0, -1 << 40: 0, -2: 0, -1: 0, 0: 1, 1: 2, 126: 127, 127: 128, api.MaxRound: 1<<20 + 1,
		1 << 40: 1<<40 + 1, math.MaxInt - 1: math.MaxInt64, math.MaxInt: 1 << 63,
	} {
		x := api.Proposal{Epoch: 1, Round: 2, Valid: valid, Replica: 3}
		h := wire.BatchHash(api.Batch{})
		text := slices.Concat([]byte("\x08proposal\x01\x02"), uvarint(want), []byte{3}, h[:])
		if got := wire.ProposalText(x); !bytes.Equal(got, text) {
			t.Errorf("Valid %d: %x, want %x", valid, got, text)
		}
	}
}

func TestTextsHaveNotTheirSignature(t *testing.T) {
	src := &source{}
	stamp, p := src.stamp(), src.promise(2, 2)
	ack := api.Ack{Replica: 1, Name: src.name(), Hash: src.hash(), Median: 9}
	deny, vote := api.Deny{Replica: 1, Index: 2}, api.Vote{Kind: 1, Epoch: 2, Round: 3, Replica: 4, Hash: src.hash()}
	proposal := api.Proposal{Epoch: 1, Round: 2, Valid: -1, Replica: 3, Batch: src.batch(2, 1, 1)}
	all := func(s api.Sig) []byte {
		stamp.Sig, ack.Sig, p.Sig, deny.Sig, proposal.Sig, vote.Sig = s, s, s, s, s, s
		return slices.Concat(wire.StampText(stamp), wire.AckText(ack), wire.PromiseText(p), wire.DenyText(deny), wire.ProposalText(proposal), wire.VoteText(vote))
	}
	want := all(api.Sig{})
	for _, s := range []api.Sig{{By: 1}, {Mark: 1}, {By: 3, Mark: 300}, {By: -1, Mark: math.MinInt}, {By: math.MaxInt, Mark: math.MaxInt}} {
		if !bytes.Equal(all(s), want) {
			t.Errorf("the texts hang on the signature %v", s)
		}
	}
}

func TestTextsHaveTheSignaturesWithin(t *testing.T) {
	fresh := func() (api.Promise, api.Proposal) {
		s := &source{}
		return s.promise(2, 2), api.Proposal{Batch: s.batch(2, 1, 2)}
	}
	p, q := fresh()
	promise, proposal := wire.PromiseText(p), wire.ProposalText(q)
	for i, turn := range []func(*api.Promise, *api.Batch){
		func(p *api.Promise, b *api.Batch) { p.Certs[1].Commit.Sig.Mark++; b.Promises[0].Sig.Mark++ },
		func(p *api.Promise, b *api.Batch) {
			p.Certs[0].Commit.Sig.By++
			b.Promises[1].Certs[0].Commit.Sig.By++
		},
		func(p *api.Promise, b *api.Batch) {
			p.Certs[1].Stamps[1].Sig.Mark++
			b.Promises[1].Certs[0].Stamps[1].Sig.Mark++
		},
		func(p *api.Promise, b *api.Batch) {
			p.Certs[0].Stamps[0].Sig.By++
			b.Tombs[1].Denies[0].Sig.By++
		},
	} {
		p, q := fresh()
		turn(&p, &q.Batch)
		if bytes.Equal(wire.PromiseText(p), promise) || bytes.Equal(wire.ProposalText(q), proposal) {
			t.Errorf("turn %d: a signature within is not signed", i)
		}
	}
}

func TestTextsAreNewMemory(t *testing.T) {
	_, p, b := known()
	texts := func() [][]byte {
		return [][]byte{
			wire.StampText(p.Certs[0].Stamps[0]), wire.AckText(api.Ack{Replica: 1}), wire.PromiseText(p),
			wire.DenyText(b.Tombs[0].Denies[0]), wire.ProposalText(api.Proposal{Batch: b}), wire.VoteText(api.Vote{Kind: 1}),
		}
	}
	first, want := texts(), brief(texts())
	for _, x := range first {
		clear(x[:cap(x)])
	}
	if got := brief(texts()); got != want {
		t.Errorf("%s, want %s", got, want)
	}
}
