package book_test

import (
	"bytes"
	"math"
	"testing"

	"gavel/api"
	"gavel/book"
)

// P3.1: New, Sign, Right, Len

// one is a signature with what it is of.
type one struct {
	by   int
	text string
	mark int
}

// sign holds that by's signature of text has that mark, and that there are count behind it.
func sign(t *testing.T, b *book.Book, by int, text []byte, mark, count int) {
	t.Helper()
	if got, want := b.Sign(by, text), (api.Sig{By: by, Mark: mark}); got != want {
		t.Errorf("Sign(%d, %q): %v, want %v", by, text, got, want)
	}
	if b.Len() != count {
		t.Errorf("behind Sign(%d, %q): Len %d, want %d", by, text, b.Len(), count)
	}
}

// wantBook holds that b has just these signatures: of all signers, texts and marks among them, and about them, no others are right.
func wantBook(t *testing.T, what string, b *book.Book, list ...one) {
	t.Helper()
	there := map[one]bool{}
	signers, texts := map[int]bool{-1: true, 0: true, 99: true}, map[string]bool{"": true, "never signed": true}
	for _, x := range list {
		there[x] = true
		signers[x.by], texts[x.text] = true, true
	}
	for by := range signers {
		for text := range texts {
			for mark := -2; mark <= len(list)+2; mark++ {
				s := api.Sig{By: by, Mark: mark}
				if got, want := b.Right(s, []byte(text)), there[one{by, text, mark}]; got != want {
					t.Errorf("%s: Right(%v, %q): %v", what, s, text, got)
				}
			}
		}
	}
	if b.Len() != len(list) {
		t.Errorf("%s: Len %d, want %d", what, b.Len(), len(list))
	}
}

func TestNewBookIsEmpty(t *testing.T) {
	wantBook(t, "new", book.New())
}

func TestSignTellsWhoSignedAndTheFirstMarkIsOne(t *testing.T) {
	for _, by := range []int{1, 0, -1, 7, api.ClientBase, api.ClientBase + 99, math.MaxInt, math.MinInt} {
		b := book.New()
		sign(t, b, by, []byte("a"), 1, 1)
		wantBook(t, "one", b, one{by, "a", 1})
	}
}

func TestRightOfAnotherText(t *testing.T) {
	b := book.New()
	s := b.Sign(1, []byte("a"))
	if !b.Right(s, []byte("a")) {
		t.Error("a is not right")
	}
	for _, text := range []string{"b", "", "aa", "a ", " a", "A", "a\x00", "\x00a", "\x00", "à"} {
		if b.Right(s, []byte(text)) {
			t.Errorf("%q is right, and a was signed", text)
		}
	}
}

func TestMarksFollowEachOtherWhoeverSigns(t *testing.T) {
	b := book.New()
	var list []one
	for i, by := range []int{3, 3, 1, 2, 0, -5, 3, api.ClientBase, 1} {
		text := string(rune('a' + i))
		sign(t, b, by, []byte(text), i+1, i+1)
		list = append(list, one{by, text, i + 1})
		wantBook(t, "behind "+text, b, list...)
	}
}

func TestTheSameTextByTheSameOneKeepsItsMark(t *testing.T) {
	b := book.New()
	sign(t, b, 1, []byte("a"), 1, 1)
	sign(t, b, 1, []byte("a"), 1, 1)
	sign(t, b, 1, []byte("b"), 2, 2)
	sign(t, b, 2, []byte("c"), 3, 3)
	for range 3 {
		sign(t, b, 1, []byte("a"), 1, 3)
		sign(t, b, 2, []byte("c"), 3, 3)
		sign(t, b, 1, []byte("b"), 2, 3)
	}
	// What was signed again takes no mark from the next one.
	sign(t, b, 2, []byte("b"), 4, 4)
	wantBook(t, "at the end", b, one{1, "a", 1}, one{1, "b", 2}, one{2, "c", 3}, one{2, "b", 4})
}

func TestTheSameTextByTwo(t *testing.T) {
	b := book.New()
	sign(t, b, 1, []byte("a"), 1, 1)
	sign(t, b, 2, []byte("a"), 2, 2)
	sign(t, b, 1, []byte("a"), 1, 2)
	sign(t, b, 2, []byte("a"), 2, 2)
	wantBook(t, "by two", b, one{1, "a", 1}, one{2, "a", 2})
}

func TestTheEmptyTextIsATextAndNilIsIt(t *testing.T) {
	far := []byte("abc")
	empty := [][]byte{nil, {}, far[:0], far[3:]}
	for _, first := range empty {
		b := book.New()
		for _, text := range empty {
			for _, mark := range []int{0, 1} {
				if b.Right(api.Sig{By: 1, Mark: mark}, text) {
					t.Errorf("mark %d of the empty text is right ahead of its being signed", mark)
				}
			}
		}
		sign(t, b, 1, first, 1, 1)
		for _, text := range empty {
			sign(t, b, 1, text, 1, 1)
			if !b.Right(api.Sig{By: 1, Mark: 1}, text) {
				t.Error("the empty text is not right")
			}
		}
		sign(t, b, 2, first, 2, 2)
		sign(t, b, 1, []byte("a"), 3, 3)
		wantBook(t, "with the empty text", b, one{1, "", 1}, one{2, "", 2}, one{1, "a", 3})
	}
}

func TestSignersAtAndBelowNought(t *testing.T) {
	b := book.New()
	sign(t, b, 0, []byte("a"), 1, 1)
	sign(t, b, -1, []byte("a"), 2, 2)
	sign(t, b, 1, []byte("a"), 3, 3)
	sign(t, b, math.MinInt, []byte("a"), 4, 4)
	sign(t, b, 0, []byte("a"), 1, 4)
	sign(t, b, -1, []byte("a"), 2, 4)
	sign(t, b, math.MinInt, []byte("a"), 4, 4)
	wantBook(t, "all signers", b, one{0, "a", 1}, one{-1, "a", 2}, one{1, "a", 3}, one{math.MinInt, "a", 4})
}

func TestMarksThatWereNeverMade(t *testing.T) {
	b := book.New()
	for i := range 3 {
		b.Sign(1, []byte{byte('a' + i)})
	}
	for _, mark := range []int{0, -1, -3, 4, 5, 1 << 32, 1<<32 + 1, 1<<32 + 3, math.MaxInt, math.MinInt, math.MinInt + 1} {
		for _, text := range []string{"a", "b", "c", "", "d"} {
			if b.Right(api.Sig{By: 1, Mark: mark}, []byte(text)) {
				t.Errorf("mark %d of %q is right", mark, text)
			}
		}
	}
}

func TestARightMarkWithAnotherSignerOrAnotherText(t *testing.T) {
	b := book.New()
	b.Sign(1, []byte("a"))
	b.Sign(2, []byte("b"))
	b.Sign(1, []byte("c"))
	for _, c := range []struct {
		s    api.Sig
		text string
	}{
		{api.Sig{By: 2, Mark: 1}, "a"},
		{api.Sig{By: 3, Mark: 1}, "a"},
		{api.Sig{By: 0, Mark: 1}, "a"},
		{api.Sig{By: -1, Mark: 1}, "a"},
		{api.Sig{By: 1 + 1<<32, Mark: 1}, "a"},
		{api.Sig{By: 1, Mark: 1}, "b"},
		{api.Sig{By: 1, Mark: 1}, "c"},
		{api.Sig{By: 1, Mark: 2}, "b"},
		{api.Sig{By: 2, Mark: 2}, "a"},
		{api.Sig{By: 1, Mark: 3}, "a"},
		{api.Sig{By: 2, Mark: 3}, "c"},
		{api.Sig{}, "a"},
		{api.Sig{}, ""},
	} {
		if b.Right(c.s, []byte(c.text)) {
			t.Errorf("Right(%v, %q)", c.s, c.text)
		}
	}
	wantBook(t, "three", b, one{1, "a", 1}, one{2, "b", 2}, one{1, "c", 3})
}

func TestTextsAreToldApartByEachByte(t *testing.T) {
	b := book.New()
	texts := []string{"\x00", "\x00\x00", "a", "a\x00", "a\x00b", "ab", "\x80", "\xFF", "\uFFFD", "A", "1", "11", "-1", "0"}
	long := bytes.Repeat([]byte{'x'}, 3000)
	texts = append(texts, string(long))
	for i := range 3 {
		other := bytes.Clone(long)
		other[i*1499] ^= 1
		texts = append(texts, string(other))
	}
	texts = append(texts, string(long[1:]))
	var list []one
	for i, text := range texts {
		sign(t, b, 1, []byte(text), 2*i+1, 2*i+1)
		sign(t, b, 11, []byte(text), 2*i+2, 2*i+2)
		list = append(list, one{1, text, 2*i + 1}, one{11, text, 2*i + 2})
	}
	wantBook(t, "many texts", b, list...)
}

func TestTheTextIsNotKept(t *testing.T) {
	b := book.New()
	text := []byte("abc")
	s := b.Sign(1, text)
	text[0] = 'X'
	if b.Right(s, text) || !b.Right(s, []byte("abc")) {
		t.Error("the change of the handed-in text reached the book")
	}
	sign(t, b, 1, text, 2, 2)
	sign(t, b, 1, []byte("abc"), 1, 2)
	copy(text, "abc")
	sign(t, b, 1, text, 1, 2)
	if !b.Right(s, text) {
		t.Error("abc is not right any more")
	}
	text[2] = 'Y'
	wantBook(t, "at the end", b, one{1, "abc", 1}, one{1, "Xbc", 2})
}

func TestTheTextIsNotChangedNorIsWhatLiesBehindIt(t *testing.T) {
	memory := []byte("abcdefgh")
	before := bytes.Clone(memory)
	b := book.New()
	s := b.Sign(1, memory[2:5])
	if !b.Right(s, memory[2:5]) || b.Right(s, memory[2:]) || b.Right(s, memory[2:6]) || b.Right(s, memory[:5]) {
		t.Error("not just cde was signed")
	}
	if !bytes.Equal(memory, before) {
		t.Errorf("the memory was changed: %q", memory)
	}
	for i := range memory {
		if i < 2 || i >= 5 {
			memory[i] = '!'
		}
	}
	if !b.Right(s, memory[2:5]) || b.Sign(1, memory[2:5]) != s || b.Len() != 1 {
		t.Error("the signature hangs on what lies about the text")
	}
}

func TestRightAndLenMakeNothing(t *testing.T) {
	b := book.New()
	for range 2 {
		b.Right(api.Sig{By: 1, Mark: 1}, []byte("a"))
		b.Right(api.Sig{By: 2, Mark: 0}, nil)
		b.Len()
	}
	wantBook(t, "asked alone", b)
	sign(t, b, 2, []byte("b"), 1, 1)
	b.Right(api.Sig{By: 1, Mark: 2}, []byte("a"))
	b.Right(api.Sig{By: 2, Mark: 7}, []byte("b"))
	sign(t, b, 2, []byte("b"), 1, 1)
	sign(t, b, 1, []byte("a"), 2, 2)
	wantBook(t, "signed", b, one{2, "b", 1}, one{1, "a", 2})
}

func TestBooksAreApart(t *testing.T) {
	a, b := book.New(), book.New()
	sign(t, a, 1, []byte("a"), 1, 1)
	sign(t, a, 1, []byte("b"), 2, 2)
	sign(t, b, 1, []byte("b"), 1, 1)
	wantBook(t, "one", a, one{1, "a", 1}, one{1, "b", 2})
	wantBook(t, "the other one", b, one{1, "b", 1})
	wantBook(t, "a later one", book.New())
}

func TestManySignatures(t *testing.T) {
	b := book.New()
	const many = 5000
	of := func(i int) (int, []byte) { return i % 7, []byte{byte(i), byte(i >> 8)} }
	for i := range many {
		by, text := of(i)
		if s := b.Sign(by, text); s != (api.Sig{By: by, Mark: i + 1}) || b.Len() != i+1 {
			t.Fatalf("signature %d: %v, Len %d", i+1, s, b.Len())
		}
	}
	for i := range many {
		by, text := of(i)
		s := b.Sign(by, text)
		if s.Mark != i+1 || !b.Right(s, text) || b.Right(api.Sig{By: by, Mark: i}, text) || b.Right(api.Sig{By: by + 1, Mark: i + 1}, text) {
			t.Fatalf("signature %d is another one later: %v", i+1, s)
		}
	}
	if b.Len() != many {
		t.Errorf("Len %d", b.Len())
	}
}
