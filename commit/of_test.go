package commit_test

import (
	"bytes"
	"crypto/sha256"
	"encoding/binary"
	"encoding/hex"
	"math"
	"testing"

	"gavel/api"
	"gavel/commit"
)

// P4.1: Of, Matches

// number is what a writer's Int of n is, without the project's own writer.
func number(n int) []byte {
	return binary.AppendUvarint(nil, uint64(max(n, 0)))
}

// row is what a writer's Row of b is, without the project's own writer.
func row(b []byte) []byte {
	return append(number(len(b)), b...)
}

// hashed is the bytes that the chapter says a commitment is the hash of.
func hashed(n api.Name, nonce api.Hash, payload []byte) []byte {
	return bytes.Join([][]byte{row([]byte("commit")), number(n.Client), number(n.Seq), nonce[:], row(payload)}, nil)
}

// bytesOf is n bytes that differ with their place, and with salt.
func bytesOf(n, salt int) []byte {
	b := make([]byte, n)
	for i := range b {
		b[i] = byte(i*11 + i>>8*37 + salt*17 + 5)
	}
	return b
}

// hashOf is a hash whose bytes differ with their place, and with salt.
func hashOf(salt int) api.Hash {
	return api.Hash(bytesOf(32, salt))
}

// edges are the numbers about which something begins or ends: of clients, of requests, of lengths, of what a byte holds, of int.
func edges() []int {
	return []int{
		math.MinInt, math.MinInt + 1, -1 << 40, -api.ClientBase - 1, -api.ClientBase, -2, -1, 0, 1, 2, 99, 100, 127, 128, 255, 256, 257, 300,
		api.ClientBase, 1<<14 - 1, 1 << 14, api.MaxSeq - 1, api.MaxSeq, api.MaxSeq + 1, 1 << 32, 1<<32 + 1, 1 << 40,
		math.MaxInt - api.ClientBase, math.MaxInt - api.ClientBase + 1, math.MaxInt - 1, math.MaxInt,
	}
}

func TestOfKnownCommitments(t *testing.T) {
	var rising, full api.Hash
	for i := range rising {
		rising[i], full[i] = byte(i), 0xFF
	}
	for _, c := range []struct {
		name    api.Name
		nonce   api.Hash
		payload string
		want    string
	}{
		{api.Name{Client: 0, Seq: 1}, api.Hash{}, "", "768a8900c7b94318a9f2054c488a2274f3d9f47f1dbcc97ed98a0ab19fb4e312"},
		{api.Name{Client: 3, Seq: 300}, rising, "bid 7", "1b3a9a6985ad9172cee9813b8d4574c4ffdb670a5b103a110ba3d131b635bde3"},
		{api.Name{Client: 99, Seq: api.MaxSeq}, full, string(bytes.Repeat([]byte{'x'}, 256)), "be8db0cc871fb44fcc3b896684987f6d5a00d5afb0642f4b812c6a18ac85fa90"},
	} {
		h := commit.Of(c.name, c.nonce, []byte(c.payload))
		if got := hex.EncodeToString(h[:]); got != c.want {
			t.Errorf("Of(%v, %x, %q): %s, want %s", c.name, c.nonce, c.payload, got, c.want)
		}
	}
}

func TestOfAllNamesAtTheEdges(t *testing.T) {
	nonce, payload := hashOf(1), []byte("bid 7")
	for _, client := range edges() {
		for _, seq := range edges() {
			n := api.Name{Client: client, Seq: seq}
			if got, want := commit.Of(n, nonce, payload), api.Hash(sha256.Sum256(hashed(n, nonce, payload))); got != want {
				t.Errorf("Of %v: %x, want %x", n, got, want)
			}
		}
	}
}

func TestOfPayloadsOfAllLengths(t *testing.T) {
	n := api.Name{Client: 2, Seq: 5}
	for size := range api.MaxPayload + 3 {
		nonce, payload := hashOf(size), bytesOf(size, size)
		if got, want := commit.Of(n, nonce, payload), api.Hash(sha256.Sum256(hashed(n, nonce, payload))); got != want {
			t.Errorf("Of %d bytes: %x, want %x", size, got, want)
		}
	}
	for _, size := range []int{1 << 14, 1 << 16, 1<<20 + 7} {
		nonce, payload := hashOf(size), bytesOf(size, 1)
		if got, want := commit.Of(n, nonce, payload), api.Hash(sha256.Sum256(hashed(n, nonce, payload))); got != want {
			t.Errorf("Of %d bytes: %x, want %x", size, got, want)
		}
	}
}

func TestOfTheEmptyPayloadAndNil(t *testing.T) {
	n, nonce := api.Name{Client: 1, Seq: 1}, hashOf(2)
	far := []byte("abc")
	want := api.Hash(sha256.Sum256(hashed(n, nonce, nil)))
	for i, payload := range [][]byte{nil, {}, far[:0], far[3:]} {
		if got := commit.Of(n, nonce, payload); got != want {
			t.Errorf("empty payload %d: %x, want %x", i, got, want)
		}
	}
	if commit.Of(n, nonce, []byte{0}) == want {
		t.Error("a nought is as nothing")
	}
}

func TestOfNumbersBelowNoughtIsOfNought(t *testing.T) {
	nonce, payload := hashOf(3), []byte("a")
	for _, below := range []int{-1, -2, -1 << 40, math.MinInt} {
		for _, c := range []struct{ got, as api.Name }{
			{api.Name{Client: below, Seq: 7}, api.Name{Client: 0, Seq: 7}},
			{api.Name{Client: 7, Seq: below}, api.Name{Client: 7, Seq: 0}},
			{api.Name{Client: below, Seq: below}, api.Name{}},
		} {
			if commit.Of(c.got, nonce, payload) != commit.Of(c.as, nonce, payload) {
				t.Errorf("Of %v is not as of %v", c.got, c.as)
			}
		}
	}
}

// turnedHashes are all hashes that differ from h in one binary digit.
func turnedHashes(h api.Hash) []api.Hash {
	var l []api.Hash
	for i := range 8 * len(h) {
		other := h
		other[i/8] ^= 1 << (i % 8)
		l = append(l, other)
	}
	return l
}

func TestOfHangsOnAllThatItIsOf(t *testing.T) {
	seen := map[api.Hash]string{}
	put := func(what string, h api.Hash) {
		if other, ok := seen[h]; ok {
			t.Errorf("%s and %s have one commitment", what, other)
		}
		seen[h] = what
	}
	nonce := hashOf(4)
	for client := range 8 {
		for seq := range 8 {
			for _, payload := range []string{"", "\x00", "\x00\x00", "a", "b", "ab", "ba", "a\x00"} {
				n := api.Name{Client: client, Seq: seq}
				put(payload, commit.Of(n, nonce, []byte(payload)))
			}
		}
	}
	for _, other := range turnedHashes(nonce) {
		put("another nonce", commit.Of(api.Name{Client: 1, Seq: 1}, other, []byte("a")))
	}
	put("the zero nonce", commit.Of(api.Name{Client: 1, Seq: 1}, api.Hash{}, []byte("a")))
	put("what is signed", api.Hash(sha256.Sum256(commit.Text(api.Commit{Name: api.Name{Client: 1, Seq: 1}, Hash: nonce}))))
}

func TestOfLeavesThePayloadAlone(t *testing.T) {
	memory := []byte("abcdefgh")
	before := bytes.Clone(memory)
	n, nonce := api.Name{Client: 1, Seq: 2}, hashOf(5)
	want := commit.Of(n, nonce, []byte("cde"))
	if commit.Of(n, nonce, memory[2:5]) != want {
		t.Error("not just cde is hashed")
	}
	if !commit.Matches(want, n, api.Opening{Payload: memory[2:5], Nonce: nonce}) {
		t.Error("not just cde is matched")
	}
	if !bytes.Equal(memory, before) {
		t.Errorf("the memory was changed: %q", memory)
	}
	memory[5] = '!'
	if commit.Of(n, nonce, memory[2:5]) != want || !commit.Matches(want, n, api.Opening{Payload: memory[2:5], Nonce: nonce}) {
		t.Error("the commitment hangs on what lies behind the payload")
	}
}

func TestMatchesWhatItIsOf(t *testing.T) {
	for _, client := range []int{0, 1, 99, 100, -1, math.MaxInt, math.MinInt} {
		for _, seq := range []int{0, 1, api.MaxSeq, api.MaxSeq + 1, -1} {
			for _, size := range []int{0, 1, 5, api.MaxPayload, api.MaxPayload + 1, 5000} {
				n := api.Name{Client: client, Seq: seq}
				o := api.Opening{Index: 3, Payload: bytesOf(size, seq), Nonce: hashOf(client)}
				c := api.Hash(sha256.Sum256(hashed(n, o.Nonce, o.Payload)))
				if !commit.Matches(c, n, o) {
					t.Errorf("%v with %d bytes does not match", n, size)
				}
			}
		}
	}
}

func TestMatchesAtEachPlace(t *testing.T) {
	n := api.Name{Client: 1, Seq: 1}
	c, other := commit.Of(n, hashOf(6), []byte("a")), commit.Of(n, hashOf(6), []byte("b"))
	for _, index := range edges() {
		o := api.Opening{Index: index, Payload: []byte("a"), Nonce: hashOf(6)}
		if !commit.Matches(c, n, o) || commit.Matches(other, n, o) {
			t.Errorf("the place %d bears on what matches", index)
		}
	}
}

func TestMatchesTheEmptyPayloadAndNil(t *testing.T) {
	n := api.Name{Client: 1, Seq: 1}
	c := commit.Of(n, hashOf(7), nil)
	for _, payload := range [][]byte{nil, {}} {
		if !commit.Matches(c, n, api.Opening{Payload: payload, Nonce: hashOf(7)}) {
			t.Errorf("%#v does not match", payload)
		}
	}
	if commit.Matches(c, n, api.Opening{Payload: []byte{0}, Nonce: hashOf(7)}) {
		t.Error("a nought matches nothing")
	}
}

func TestMatchesNothingElse(t *testing.T) {
	n := api.Name{Client: 3, Seq: 5}
	o := api.Opening{Index: 2, Payload: []byte("bid 7"), Nonce: hashOf(8)}
	c := commit.Of(n, o.Nonce, o.Payload)
	if !commit.Matches(c, n, o) {
		t.Fatal("it does not match")
	}
	for _, other := range []api.Name{{Client: 4, Seq: 5}, {Client: 2, Seq: 5}, {Client: 3, Seq: 4}, {Client: 3, Seq: 6}, {Client: 5, Seq: 3}, {Client: -3, Seq: 5}, {Client: 3, Seq: -5}, {}} {
		if commit.Matches(c, other, o) {
			t.Errorf("the name %v matches", other)
		}
	}
	for _, other := range turnedHashes(o.Nonce) {
		if commit.Matches(c, n, api.Opening{Index: 2, Payload: o.Payload, Nonce: other}) {
			t.Errorf("the nonce %x matches", other)
		}
	}
	for _, other := range []string{"", "bid 8", "bid ", "bid 77", "bid 7\x00", "\x00bid 7", "Bid 7", "cid 7"} {
		if commit.Matches(c, n, api.Opening{Index: 2, Payload: []byte(other), Nonce: o.Nonce}) {
			t.Errorf("the payload %q matches", other)
		}
	}
	for _, other := range append(turnedHashes(c), api.Hash{}, o.Nonce, sha256.Sum256(o.Payload)) {
		if commit.Matches(other, n, o) {
			t.Errorf("the commitment %x matches", other)
		}
	}
	if commit.Matches(c, n, api.Opening{}) || commit.Matches(api.Hash{}, api.Name{}, api.Opening{}) || commit.Matches(api.Hash{}, n, o) {
		t.Error("a zero value matches")
	}
}
