package commit_test

import (
	"bytes"
	"encoding/hex"
	"math"
	"slices"
	"testing"

	"gavel/api"
	"gavel/book"
	"gavel/commit"
)

// P4.2: Valid, Text, Make, Right

// conf is a service of three clients: 0, 1, 2.
var conf = api.Conf{F: 1, Clients: 3}

// signed is the bytes that the chapter says a client signs, without the project's own writer.
func signed(x api.Commit) []byte {
	return bytes.Join([][]byte{row([]byte("request")), number(x.Name.Client), number(x.Name.Seq), x.Hash[:], number(x.Len)}, nil)
}

// sign is x, signed by that one.
func sign(b *book.Book, by int, x api.Commit) api.Commit {
	x.Sig = b.Sign(by, signed(x))
	return x
}

func TestValidClients(t *testing.T) {
	for _, clients := range []int{math.MinInt, -1, 0, 1, 2, 3, api.MaxClients, api.MaxClients + 1, math.MaxInt} {
		for _, client := range append(edges(), clients-2, clients-1, clients, clients+1) {
			x := api.Commit{Name: api.Name{Client: client, Seq: 1}}
			got, want := commit.Valid(api.Conf{F: 1, Clients: clients}, x), client >= 0 && client < clients
			if got != want {
				t.Errorf("client %d of %d: %v", client, clients, got)
			}
		}
	}
}

func TestValidSeqs(t *testing.T) {
	for _, c := range []struct {
		seq  int
		want bool
	}{
		{math.MinInt, false}, {-api.MaxSeq, false}, {-1, false}, {0, false}, {1, true}, {2, true}, {1000, true},
		{api.MaxSeq - 1, true}, {api.MaxSeq, true}, {api.MaxSeq + 1, false}, {1<<32 + 1, false}, {math.MaxInt, false},
	} {
		x := api.Commit{Name: api.Name{Client: 1, Seq: c.seq}, Len: 9}
		if got := commit.Valid(conf, x); got != c.want {
			t.Errorf("Seq %d: %v", c.seq, got)
		}
	}
}

func TestValidLens(t *testing.T) {
	for _, c := range []struct {
		size int
		want bool
	}{
		{math.MinInt, false}, {-api.MaxPayload, false}, {-1, false}, {0, true}, {1, true}, {100, true},
		{api.MaxPayload - 1, true}, {api.MaxPayload, true}, {api.MaxPayload + 1, false}, {1<<32 + 1, false}, {math.MaxInt, false},
	} {
		x := api.Commit{Name: api.Name{Client: 1, Seq: 1}, Len: c.size}
		if got := commit.Valid(conf, x); got != c.want {
			t.Errorf("Len %d: %v", c.size, got)
		}
	}
}

func TestValidLooksAtNothingElse(t *testing.T) {
	x := api.Commit{Name: api.Name{Client: 2, Seq: 1}, Len: api.MaxPayload}
	for _, f := range []int{0, 1, -1, api.MaxF + 1, math.MaxInt} {
		if !commit.Valid(api.Conf{F: f, Clients: 3}, x) {
			t.Errorf("F %d bears on it", f)
		}
	}
	for _, s := range []api.Sig{{}, {By: -1, Mark: -1}, {By: 1, Mark: 1}, {By: api.ClientBase + 2, Mark: 1}} {
		for _, h := range []api.Hash{{}, hashOf(1)} {
			x.Sig, x.Hash = s, h
			if !commit.Valid(conf, x) {
				t.Errorf("%v or %x bears on it", s, h)
			}
		}
	}
}

func TestTextOfAKnownCommitment(t *testing.T) {
	var rising api.Hash
	for i := range rising {
		rising[i] = byte(i)
	}
	x := api.Commit{Name: api.Name{Client: 3, Seq: 300}, Hash: rising, Len: 256, Sig: api.Sig{By: 1003, Mark: 9}}
	want := "077265717565737403ac02000102030405060708090a0b0c0d0e0f101112131415161718191a1b1c1d1e1f8002"
	if got := hex.EncodeToString(commit.Text(x)); got != want {
		t.Errorf("%s, want %s", got, want)
	}
}

func TestTextAtTheEdges(t *testing.T) {
	for _, n := range edges() {
		for _, x := range []api.Commit{
			{Name: api.Name{Client: n, Seq: 2}, Hash: hashOf(1), Len: 3},
			{Name: api.Name{Client: 1, Seq: n}, Hash: hashOf(2), Len: 3},
			{Name: api.Name{Client: 1, Seq: 2}, Hash: hashOf(3), Len: n},
			{Name: api.Name{Client: n, Seq: n}, Len: n},
		} {
			if got, want := commit.Text(x), signed(x); !bytes.Equal(got, want) {
				t.Errorf("Text of %v: %x, want %x", x, got, want)
			}
		}
	}
}

func TestTextOfNumbersBelowNoughtIsOfNought(t *testing.T) {
	zero := commit.Text(api.Commit{Hash: hashOf(4)})
	for _, below := range []int{-1, -128, math.MinInt} {
		x := api.Commit{Name: api.Name{Client: below, Seq: below}, Hash: hashOf(4), Len: below}
		if got := commit.Text(x); !bytes.Equal(got, zero) {
			t.Errorf("of %d: %x, want %x", below, got, zero)
		}
	}
}

func TestTextHasNotTheSignature(t *testing.T) {
	x := api.Commit{Name: api.Name{Client: 1, Seq: 2}, Hash: hashOf(5), Len: 3}
	want := commit.Text(x)
	for _, s := range []api.Sig{{By: 1}, {Mark: 1}, {By: api.ClientBase + 1, Mark: 7}, {By: -1, Mark: math.MinInt}} {
		x.Sig = s
		if got := commit.Text(x); !bytes.Equal(got, want) {
			t.Errorf("with %v: %x, want %x", s, got, want)
		}
	}
}

func TestTextIsNewMemory(t *testing.T) {
	x := api.Commit{Name: api.Name{Client: 1, Seq: 2}, Hash: hashOf(6), Len: 3}
	first := commit.Text(x)
	clear(first[:cap(first)])
	if got := commit.Text(x); !bytes.Equal(got, signed(x)) {
		t.Errorf("%x", got)
	}
}

// turned are all commitments that differ from x in one field beside its signature.
func turned(x api.Commit) []api.Commit {
	var l []api.Commit
	add := func(turn func(*api.Commit)) {
		other := x
		turn(&other)
		l = append(l, other)
	}
	for _, by := range []int{-2, -1, 1, 2} {
		add(func(x *api.Commit) { x.Name.Client += by })
		add(func(x *api.Commit) { x.Name.Seq += by })
		add(func(x *api.Commit) { x.Len += by })
	}
	for _, h := range append(turnedHashes(x.Hash), api.Hash{}) {
		add(func(x *api.Commit) { x.Hash = h })
	}
	return l
}

func TestTextHangsOnEachField(t *testing.T) {
	x := api.Commit{Name: api.Name{Client: 5, Seq: 5}, Hash: hashOf(7), Len: 5}
	text := commit.Text(x)
	for _, other := range turned(x) {
		if bytes.Equal(commit.Text(other), text) {
			t.Errorf("%v has the text of %v", other, x)
		}
	}
}

func TestMakeNamesAllFields(t *testing.T) {
	for _, client := range []int{0, 1, 2, 99, 100, 5000} {
		for _, seq := range []int{0, 1, 2, api.MaxSeq, api.MaxSeq + 1} {
			for _, size := range []int{0, 1, 5, api.MaxPayload, api.MaxPayload + 1, 5000} {
				b := book.New()
				n, nonce, payload := api.Name{Client: client, Seq: seq}, hashOf(size), bytesOf(size, seq)
				want := api.Commit{Name: n, Hash: commit.Of(n, nonce, payload), Len: size, Sig: api.Sig{By: 1000 + client, Mark: 1}}
				if got := commit.Make(b, n, nonce, payload); got != want {
					t.Errorf("Make of %v, %d bytes: %v, want %v", n, size, got, want)
				}
				if b.Len() != 1 || !b.Right(want.Sig, signed(want)) {
					t.Errorf("Make of %v, %d bytes: not just its text was signed", n, size)
				}
			}
		}
	}
}

func TestMakeOfNumbersBelowNought(t *testing.T) {
	nonce, payload := hashOf(8), []byte("a")
	for _, below := range []int{-1, -1 << 40, math.MinInt} {
		b := book.New()
		n := api.Name{Client: below, Seq: below}
		want := api.Commit{Name: n, Hash: commit.Of(api.Name{}, nonce, payload), Len: 1, Sig: api.Sig{By: 1000 + below, Mark: 1}}
		if got := commit.Make(b, n, nonce, payload); got != want || !b.Right(want.Sig, signed(want)) {
			t.Errorf("Make of %v: %v, want %v", n, got, want)
		}
		if commit.Right(conf, b, want) {
			t.Errorf("what was made of %v is right", n)
		}
	}
}

func TestMakeOfTheEmptyPayloadAndNil(t *testing.T) {
	b := book.New()
	n, nonce := api.Name{Client: 1, Seq: 1}, hashOf(9)
	x := commit.Make(b, n, nonce, nil)
	if x.Len != 0 || x.Sig != (api.Sig{By: 1001, Mark: 1}) || !commit.Right(conf, b, x) {
		t.Errorf("of nil: %v", x)
	}
	if got := commit.Make(b, n, nonce, []byte{}); got != x || b.Len() != 1 {
		t.Errorf("of the empty payload: %v, of nil: %v", got, x)
	}
}

func TestMakeAgainHasTheSameMark(t *testing.T) {
	b := book.New()
	b.Sign(7, []byte("another text"))
	n, nonce := api.Name{Client: 1, Seq: 1}, hashOf(10)
	x := commit.Make(b, n, nonce, []byte("bid 7"))
	if x.Sig != (api.Sig{By: 1001, Mark: 2}) {
		t.Errorf("the first one: %v", x.Sig)
	}
	for i, other := range []struct {
		n       api.Name
		nonce   api.Hash
		payload string
	}{
		{api.Name{Client: 2, Seq: 1}, nonce, "bid 7"},
		{api.Name{Client: 1, Seq: 2}, nonce, "bid 7"},
		{n, hashOf(11), "bid 7"},
		{n, nonce, "bid 8"},
		{n, nonce, "bid 77"},
	} {
		y := commit.Make(b, other.n, other.nonce, []byte(other.payload))
		if y.Sig != (api.Sig{By: 1000 + other.n.Client, Mark: i + 3}) || b.Len() != i+3 || !commit.Right(conf, b, y) {
			t.Errorf("another one, %d: %v, Len %d", i, y, b.Len())
		}
		if again := commit.Make(b, n, nonce, []byte("bid 7")); again != x || b.Len() != i+3 {
			t.Errorf("made again: %v, want %v; Len %d", again, x, b.Len())
		}
	}
	if !commit.Right(conf, b, x) {
		t.Error("the first one is not right any more")
	}
}

func TestMakeLeavesThePayloadAlone(t *testing.T) {
	memory := []byte("abcdefgh")
	before := bytes.Clone(memory)
	b := book.New()
	n, nonce := api.Name{Client: 1, Seq: 1}, hashOf(12)
	x := commit.Make(b, n, nonce, memory[2:5])
	if !bytes.Equal(memory, before) {
		t.Errorf("the memory was changed: %q", memory)
	}
	clear(memory)
	if x.Len != 3 || x.Hash != commit.Of(n, nonce, []byte("cde")) || !commit.Right(conf, b, x) {
		t.Errorf("not just cde was committed to: %v", x)
	}
}

func TestRightOfWhatWasMade(t *testing.T) {
	for _, clients := range []int{1, 3, api.MaxClients} {
		for _, client := range []int{0, clients / 2, clients - 1} {
			for _, seq := range []int{1, 2, api.MaxSeq} {
				for _, size := range []int{0, 1, 127, 128, api.MaxPayload} {
					b := book.New()
					b.Sign(1, nil)
					x := commit.Make(b, api.Name{Client: client, Seq: seq}, hashOf(seq), bytesOf(size, client))
					if !commit.Right(api.Conf{F: 1, Clients: clients}, b, x) {
						t.Errorf("%v of %d clients is not right", x, clients)
					}
					if b.Len() != 2 {
						t.Error("Right has signed")
					}
				}
			}
		}
	}
}

// Whom a hash is of, and how long its payload is, nobody can tell ahead of the opening.
func TestRightHangsOnTheSignatureAlone(t *testing.T) {
	b := book.New()
	for i, h := range []api.Hash{{}, hashOf(13), commit.Of(api.Name{Client: 2, Seq: 9}, hashOf(13), nil)} {
		x := sign(b, 1001, api.Commit{Name: api.Name{Client: 1, Seq: 1}, Hash: h, Len: i * 100})
		if !commit.Right(conf, b, x) {
			t.Errorf("%v is not right", x)
		}
	}
	x := api.Commit{Name: api.Name{Client: 1, Seq: 1}, Len: 4}
	x.Sig = b.Sign(1001, commit.Text(x))
	if !commit.Right(conf, b, x) {
		t.Error("what is signed is not the text")
	}
}

func TestRightIsValid(t *testing.T) {
	b := book.New()
	for _, n := range edges() {
		for i, x := range []api.Commit{
			{Name: api.Name{Client: n, Seq: 1}, Hash: hashOf(14), Len: 1},
			{Name: api.Name{Client: 1, Seq: n}, Hash: hashOf(15), Len: 1},
			{Name: api.Name{Client: 1, Seq: 1}, Hash: hashOf(16), Len: n},
		} {
			x = sign(b, api.ClientBase+x.Name.Client, x)
			want := []bool{n >= 0 && n < 3, n >= 1 && n <= api.MaxSeq, n >= 0 && n <= api.MaxPayload}[i]
			if got := commit.Right(conf, b, x); got != want {
				t.Errorf("field %d is %d: %v", i, n, got)
			}
		}
	}
	long := commit.Make(b, api.Name{Client: 1, Seq: 1}, hashOf(17), make([]byte, api.MaxPayload+1))
	if commit.Right(conf, b, long) {
		t.Error("a payload that is too long is right")
	}
	last := commit.Make(b, api.Name{Client: 2, Seq: 1}, hashOf(17), nil)
	for clients, want := range []bool{false, false, false, true, true} {
		if got := commit.Right(api.Conf{F: 1, Clients: clients}, b, last); got != want {
			t.Errorf("client 2 of %d: %v", clients, got)
		}
	}
}

func TestRightOfATurnedField(t *testing.T) {
	b := book.New()
	all := api.Conf{F: 1, Clients: 20}
	x := commit.Make(b, api.Name{Client: 5, Seq: 5}, hashOf(18), []byte("bid 7"))
	if !commit.Right(all, b, x) {
		t.Fatal("it is not right")
	}
	for _, other := range turned(x) {
		if commit.Right(all, b, other) {
			t.Errorf("%v is right, %v was signed", other, x)
		}
		// Nor is it, if it says that the other client has signed.
		other.Sig.By = api.ClientBase + other.Name.Client
		if commit.Right(all, b, other) {
			t.Errorf("%v is right, %v was signed", other, x)
		}
	}
}

func TestRightOfATurnedSignature(t *testing.T) {
	b := book.New()
	b.Sign(1004, []byte("a text"))
	x := commit.Make(b, api.Name{Client: 5, Seq: 5}, hashOf(19), []byte("bid 7"))
	b.Sign(1005, []byte("a text"))
	all := api.Conf{F: 1, Clients: 20}
	sigs := []api.Sig{{}, {By: x.Sig.By}, {Mark: x.Sig.Mark}, {By: x.Sig.Mark, Mark: x.Sig.By}}
	for _, by := range []int{5, -1005, 1004, 1006, 0, 1, -1, api.ClientBase, 1005 + 1<<32, math.MaxInt, math.MinInt} {
		sigs = append(sigs, api.Sig{By: by, Mark: x.Sig.Mark})
	}
	for _, mark := range []int{0, 1, 3, 4, -2, 2 + 1<<32, math.MaxInt, math.MinInt} {
		sigs = append(sigs, api.Sig{By: x.Sig.By, Mark: mark})
	}
	for _, s := range sigs {
		other := x
		other.Sig = s
		if commit.Right(all, b, other) {
			t.Errorf("%v is right, it is %v", s, x.Sig)
		}
	}
	if !commit.Right(all, b, x) {
		t.Error("it is not right")
	}
}

func TestRightOfTheSignatureOfAnother(t *testing.T) {
	x := api.Commit{Name: api.Name{Client: 1, Seq: 1}, Hash: hashOf(20), Len: 5}
	for _, by := range []int{0, 1, 3, -1, 999, 1000, 1002, 1003, 2001, math.MaxInt, math.MinInt} {
		b := book.New()
		y := sign(b, by, x)
		if !b.Right(y.Sig, commit.Text(y)) {
			t.Fatalf("%d has not signed", by)
		}
		if commit.Right(conf, b, y) {
			t.Errorf("signed by %d it is right", by)
		}
		y.Sig.By = 1001
		if commit.Right(conf, b, y) {
			t.Errorf("signed by %d in the name of 1001 it is right", by)
		}
		if y = sign(b, 1001, x); !commit.Right(conf, b, y) {
			t.Errorf("signed by %d and by its client it is not right", by)
		}
	}
}

// ClientBase and such a client are more than an int holds: nobody's signature is that one's, not that of the number that the sum would wrap round to.
func TestRightOfClientsWhoseSignerIsPastAnInt(t *testing.T) {
	all := api.Conf{F: 1, Clients: math.MaxInt}
	for client, want := range map[int]bool{math.MaxInt - 1: false, math.MaxInt - api.ClientBase + 1: false, math.MaxInt - api.ClientBase: true} {
		b := book.New()
		x := sign(b, api.ClientBase+client, api.Commit{Name: api.Name{Client: client, Seq: 1}})
		if got := commit.Right(all, b, x); got != want {
			t.Errorf("client %d, signed by %d: %v", client, x.Sig.By, got)
		}
	}
}

func TestRightOfAnotherText(t *testing.T) {
	b := book.New()
	x := api.Commit{Name: api.Name{Client: 1, Seq: 1}, Hash: hashOf(21), Len: 5}
	text := signed(x)
	for _, other := range [][]byte{nil, text[1:], text[8:], text[:len(text)-1], append(slices.Clone(text), 0), hashed(x.Name, x.Hash, make([]byte, 5)), x.Hash[:]} {
		x.Sig = b.Sign(1001, other)
		if commit.Right(conf, b, x) {
			t.Errorf("%x was signed, and it is right", other)
		}
	}
}

func TestRightInAnotherBook(t *testing.T) {
	b, other := book.New(), book.New()
	early := b.Clone()
	x := commit.Make(b, api.Name{Client: 1, Seq: 1}, hashOf(22), []byte("bid 7"))
	other.Sign(1001, []byte("another text"))
	if commit.Right(conf, other, x) || commit.Right(conf, early, x) || commit.Right(conf, book.New(), x) {
		t.Error("right in a book that did not sign it")
	}
	if !commit.Right(conf, b, x) || !commit.Right(conf, b.Clone(), x) {
		t.Error("not right in the book that signed it, or in its clone")
	}
	if other.Len() != 1 || early.Len() != 0 || b.Len() != 1 {
		t.Error("Right has signed")
	}
	// The same one has another mark there.
	y := commit.Make(other, x.Name, hashOf(22), []byte("bid 7"))
	if y.Sig.Mark != 2 || !commit.Right(conf, other, y) || commit.Right(conf, b, y) {
		t.Errorf("in the other book: %v", y)
	}
}
