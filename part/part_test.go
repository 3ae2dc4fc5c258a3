package part_test

import (
	"encoding/binary"
	"encoding/hex"
	"fmt"
	"math"
	"testing"

	"gavel/api"
	"gavel/code"
	"gavel/part"
)

// P5.2, P5.3: the bytes of the parts that package wire does not hand out alone. (Those of the others are tested there.)

// low and high are hashes whose bytes all differ.
func low() api.Hash  { return rising(0) }
func high() api.Hash { return rising(0xe0) }

func rising(first byte) api.Hash {
	var h api.Hash
	for i := range h {
		h[i] = first + byte(i)
	}
	return h
}

const (
	lowHex  = "000102030405060708090a0b0c0d0e0f101112131415161718191a1b1c1d1e1f"
	highHex = "e0e1e2e3e4e5e6e7e8e9eaebecedeeeff0f1f2f3f4f5f6f7f8f9fafbfcfdfeff"
)

// put writes a part, and expects the writer itself back.
func put[T any](t *testing.T, call func(*code.Writer, T) *code.Writer, x T) []byte {
	t.Helper()
	w := code.NewWriter()
	if call(w, x) != w {
		t.Errorf("%T: another writer came back", x)
	}
	return w.Bytes()
}

// check holds a part against its bytes: written, read back, and with bytes missing.
func check[T any](t *testing.T, putCall func(*code.Writer, T) *code.Writer, get func(*code.Reader) T, x T, want string) {
	t.Helper()
	b := put(t, putCall, x)
	if got := hex.EncodeToString(b); got != want {
		t.Errorf("%T: %s, want %s", x, got, want)
	}
	r := code.NewReader(append(b, 0xFF))
	if got := get(r); !same(got, x) || !r.OK() || r.Left() != 1 {
		t.Errorf("%T: %+v was read, OK %v, %d left, want %+v", x, got, r.OK(), r.Left(), x)
	}
	for n := range b {
		r := code.NewReader(b[:n])
		if get(r); r.OK() || r.Left() != 0 {
			t.Errorf("%T: of %d bytes of %d it was read", x, n, len(b))
		}
	}
}

// same tells whether two parts are the same, nil and the empty list being so.
func same(a, b any) bool {
	return fmt.Sprintf("%+v", a) == fmt.Sprintf("%+v", b)
}

func TestPartsKnown(t *testing.T) {
	n := api.Name{Client: 3, Seq: 300}
	check(t, part.PutSig, part.GetSig, api.Sig{By: 1003, Mark: 9}, "eb0709")
	check(t, part.PutName, part.GetName, n, "03ac02")
	check(t, part.PutCommit, part.GetCommit, api.Commit{Name: n, Hash: low(), Len: 5, Sig: api.Sig{By: 1003, Mark: 9}}, "03ac02"+lowHex+"05eb0709")
	check(t, part.PutStamp, part.GetStamp, api.Stamp{Replica: 2, Name: n, Hash: low(), Time: math.MaxUint64, Sig: api.Sig{By: 2, Mark: 130}}, "0203ac02"+lowHex+"ffffffffffffffffff01028201")
	check(t, part.PutOpening, part.GetOpening, api.Opening{Index: 200, Payload: []byte("bid 7"), Nonce: high()}, "c801056269642037"+highHex)
	check(t, part.PutDeny, part.GetDeny, api.Deny{Replica: 3, Index: 200, Sig: api.Sig{By: 3, Mark: 77}}, "03c801034d")
	check(t, part.PutVote, part.GetVote, api.Vote{Kind: 2, Epoch: 4, Round: 1, Replica: 3, Hash: high(), Sig: api.Sig{By: 3, Mark: 500}}, "02040103"+highHex+"03f403")
	check(t, part.PutAck, part.GetAck, api.Ack{Replica: 2, Name: n, Hash: high(), Median: math.MaxUint64, Sig: api.Sig{By: 2, Mark: 130}}, "0203ac02"+highHex+"ffffffffffffffffff01028201")
	check(t, part.PutEntry, part.GetEntry, api.Entry{Name: n, Hash: low(), Time: 1 << 40}, "03ac02"+lowHex+"808080808020")
	check(t, part.PutVote, part.GetVote, api.Vote{Kind: 1, Epoch: 300, Round: 301, Replica: 302, Sig: api.Sig{By: 303, Mark: 304}}, "01ac02ad02ae02"+zeros(32)+"af02b002")
}

func TestPartsWithABatchKnown(t *testing.T) {
	b := api.Batch{
		Epoch:    4,
		Time:     300,
		Openings: []api.Opening{{Index: 5, Payload: []byte("ab"), Nonce: low()}},
		Tombs:    []api.Tomb{{Index: 6, Denies: []api.Deny{{Replica: 7, Index: 8, Sig: api.Sig{By: 9, Mark: 10}}}}},
	}
	const batch = "04ac020001" + "05026162" + lowHex + "01" + "06" + "01" + "0708090a"
	votes := []api.Vote{{Kind: 2, Epoch: 4, Round: 1, Replica: 3, Hash: high(), Sig: api.Sig{By: 3, Mark: 500}}, {Kind: 11}}
	check(t, part.PutProposal, part.GetProposal, api.Proposal{Epoch: 11, Round: 300, Valid: 127, Replica: 12, Batch: b, Sig: api.Sig{By: 13, Mark: 14}}, "0bac0280010c"+batch+"0d0e")
	check(t, part.PutProposal, part.GetProposal, api.Proposal{Epoch: 1, Round: 2, Valid: -1, Replica: 3}, "01020003"+zeros(5)+"0000")
	check(t, part.PutDecided, part.GetDecided, api.Decided{Epoch: 301, Round: 302, Batch: b, Votes: votes}, "ad02ae02"+batch+"02"+"02040103"+highHex+"03f403"+"0b"+zeros(37))
}

// Valid is written as one more, so that none (-1) is a number as well; below that as none, past the greatest int it is reckoned on. What is read is at most 2^40, as all ints.
func TestValidOfAProposal(t *testing.T) {
	for valid, num := range map[int]uint64{
		math.MinInt: 0, -2: 0, -1: 0, 0: 1, 1: 2, 126: 127, 127: 128, 1<<40 - 2: 1<<40 - 1, 1<<40 - 1: 1 << 40,
		1 << 40: 1<<40 + 1, math.MaxInt - 1: math.MaxInt64, math.MaxInt: 1 << 63,
	} {
		x := api.Proposal{Epoch: 1, Round: 2, Valid: valid, Replica: 3}
		b, want := put(t, part.PutProposal, x), fmt.Sprintf("0102%x03", binary.AppendUvarint(nil, num))
		if got := hex.EncodeToString(put(t, part.ProposalHead, x)); got != want {
			t.Errorf("Valid %d: the head is %s, want %s", valid, got, want)
		}
		if got := hex.EncodeToString(b); got != want+zeros(7) {
			t.Errorf("Valid %d: %s, want %s", valid, got, want+zeros(7))
		}
		r := code.NewReader(b)
		if got := part.GetProposal(r); r.OK() != (num <= 1<<40) || r.OK() && got.Valid != max(valid, -1) {
			t.Errorf("Valid %d: %+v, OK %v", valid, got, r.OK())
		}
	}
}

// zeros is n noughts in hex.
func zeros(n int) string {
	return hex.EncodeToString(make([]byte, n))
}

func TestZeroParts(t *testing.T) {
	check(t, part.PutSig, part.GetSig, api.Sig{}, zeros(2))
	check(t, part.PutName, part.GetName, api.Name{}, zeros(2))
	check(t, part.PutCommit, part.GetCommit, api.Commit{}, zeros(37))
	check(t, part.PutStamp, part.GetStamp, api.Stamp{}, zeros(38))
	check(t, part.PutCert, part.GetCert, api.Cert{}, zeros(38))
	check(t, part.PutPromise, part.GetPromise, api.Promise{}, zeros(6))
	check(t, part.PutOpening, part.GetOpening, api.Opening{}, zeros(34))
	check(t, part.PutDeny, part.GetDeny, api.Deny{}, zeros(4))
	check(t, part.PutVote, part.GetVote, api.Vote{}, zeros(38))
	check(t, part.PutBatch, part.GetBatch, api.Batch{}, zeros(5))
	check(t, part.PutAck, part.GetAck, api.Ack{}, zeros(38))
	check(t, part.PutEntry, part.GetEntry, api.Entry{}, zeros(35))
	check(t, part.PutProposal, part.GetProposal, api.Proposal{Valid: -1}, zeros(11))
	check(t, part.PutDecided, part.GetDecided, api.Decided{}, zeros(8))
}

// bounds turns each int of a part to each edge: at most 2^40 it is read (below 0 as 0), above that it is not.
func bounds[T any](t *testing.T, putCall func(*code.Writer, T) *code.Writer, get func(*code.Reader) T, ints func(*T) []*int) {
	t.Helper()
	var zero T
	for i := range ints(&zero) {
		for _, n := range []int{math.MinInt, -1 << 40, -1, 0, 1, 127, 128, 1<<40 - 1, 1 << 40, 1<<40 + 1, 1 << 41, math.MaxInt} {
			var x, want T
			*ints(&x)[i], *ints(&want)[i] = n, max(n, 0)
			r := code.NewReader(put(t, putCall, x))
			if got := get(r); n <= 1<<40 && (!same(got, want) || !r.OK() || r.Left() != 0) {
				t.Errorf("%T, int %d is %d: %+v, OK %v", x, i, n, got, r.OK())
			} else if n > 1<<40 && r.OK() {
				t.Errorf("%T, int %d is %d: it was read", x, i, n)
			}
		}
	}
}

func TestIntsAtTheBounds(t *testing.T) {
	bounds(t, part.PutSig, part.GetSig, func(x *api.Sig) []*int { return []*int{&x.By, &x.Mark} })
	bounds(t, part.PutName, part.GetName, func(x *api.Name) []*int { return []*int{&x.Client, &x.Seq} })
	bounds(t, part.PutCommit, part.GetCommit, func(x *api.Commit) []*int {
		return []*int{&x.Name.Client, &x.Name.Seq, &x.Len, &x.Sig.By, &x.Sig.Mark}
	})
	bounds(t, part.PutStamp, part.GetStamp, func(x *api.Stamp) []*int {
		return []*int{&x.Replica, &x.Name.Client, &x.Name.Seq, &x.Sig.By, &x.Sig.Mark}
	})
	bounds(t, part.PutOpening, part.GetOpening, func(x *api.Opening) []*int { return []*int{&x.Index} })
	bounds(t, part.PutDeny, part.GetDeny, func(x *api.Deny) []*int { return []*int{&x.Replica, &x.Index, &x.Sig.By, &x.Sig.Mark} })
	bounds(t, part.PutVote, part.GetVote, func(x *api.Vote) []*int {
		return []*int{&x.Kind, &x.Epoch, &x.Round, &x.Replica, &x.Sig.By, &x.Sig.Mark}
	})
	bounds(t, part.PutAck, part.GetAck, func(x *api.Ack) []*int {
		return []*int{&x.Replica, &x.Name.Client, &x.Name.Seq, &x.Sig.By, &x.Sig.Mark}
	})
	bounds(t, part.PutEntry, part.GetEntry, func(x *api.Entry) []*int { return []*int{&x.Name.Client, &x.Name.Seq} })
	bounds(t, part.PutProposal, part.GetProposal, func(x *api.Proposal) []*int {
		return []*int{&x.Epoch, &x.Round, &x.Replica, &x.Batch.Epoch, &x.Sig.By, &x.Sig.Mark}
	})
	bounds(t, part.PutDecided, part.GetDecided, func(x *api.Decided) []*int { return []*int{&x.Epoch, &x.Round, &x.Batch.Epoch} })
}

func TestOpeningsOfEachLength(t *testing.T) {
	for _, size := range []int{0, 1, 127, 128, 255, 256, 257, 300, 1 << 16} {
		x := api.Opening{Index: 7, Payload: make([]byte, size), Nonce: high()}
		b := put(t, part.PutOpening, x)
		if want := fmt.Sprintf("07%x%s%s", binary.AppendUvarint(nil, uint64(size)), zeros(size), highHex); hex.EncodeToString(b) != want {
			t.Errorf("%d bytes are not written as they are", size)
		}
		r := code.NewReader(b)
		if got := part.GetOpening(r); r.OK() != (size <= 256) || r.OK() && !same(got, x) {
			t.Errorf("%d bytes: OK %v", size, r.OK())
		}
	}
}

func TestVotesOfABatchThatWasDecided(t *testing.T) {
	for _, n := range []int{0, 1, 99, 100, 101, 128, 300} {
		x := api.Decided{Epoch: 1, Votes: make([]api.Vote, n)}
		b := put(t, part.PutDecided, x)
		if want := "0100" + zeros(5) + hex.EncodeToString(binary.AppendUvarint(nil, uint64(n))) + zeros(38*n); hex.EncodeToString(b) != want {
			t.Errorf("%d votes are not written as they are", n)
		}
		r := code.NewReader(b)
		if got := part.GetDecided(r); r.OK() != (n <= 100) || r.OK() && !same(got, x) {
			t.Errorf("%d votes: OK %v", n, r.OK())
		}
	}
}

func TestGetInt(t *testing.T) {
	for n, may := range map[uint64]bool{0: true, 1: true, 1<<40 - 1: true, 1 << 40: true, 1<<40 + 1: false, 1 << 63: false} {
		r := code.NewReader(binary.AppendUvarint(nil, n))
		if got := part.GetInt(r); r.OK() != may || may && uint64(got) != n || !may && got != 0 {
			t.Errorf("%d: %d, OK %v", n, got, r.OK())
		}
	}
}

// A Fields call writes all of a part but the two numbers of its signature.
func TestFieldsAreAllButTheSignature(t *testing.T) {
	for _, s := range []api.Sig{{}, {By: 1, Mark: 2}, {By: 300, Mark: 1 << 40}, {By: -1, Mark: math.MaxInt}} {
		sig := put(t, part.PutSig, s)
		fields(t, part.StampFields, part.PutStamp, api.Stamp{Replica: 300, Name: api.Name{Client: 1, Seq: 2}, Hash: low(), Time: 9, Sig: s}, sig)
		fields(t, part.AckFields, part.PutAck, api.Ack{Replica: 300, Name: api.Name{Client: 1, Seq: 2}, Hash: high(), Median: 9, Sig: s}, sig)
		fields(t, part.PromiseFields, part.PutPromise, api.Promise{Replica: 1, Epoch: 300, Floor: 9, Certs: []api.Cert{{Commit: api.Commit{Sig: s}}}, Sig: s}, sig)
		fields(t, part.DenyFields, part.PutDeny, api.Deny{Replica: 1, Index: 300, Sig: s}, sig)
		fields(t, part.VoteFields, part.PutVote, api.Vote{Kind: 1, Epoch: 2, Round: 300, Replica: 4, Hash: high(), Sig: s}, sig)
	}
}

func fields[T any](t *testing.T, some, all func(*code.Writer, T) *code.Writer, x T, sig []byte) {
	t.Helper()
	if got, want := append(put(t, some, x), sig...), put(t, all, x); string(got) != string(want) {
		t.Errorf("%T: %x, want %x", x, got, want)
	}
}
