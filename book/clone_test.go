package book_test

import (
	"strconv"
	"testing"

	"gavel/api"
	"gavel/book"
)

// P3.1: Clone; R4

func TestCloneIsAsTheOriginalIs(t *testing.T) {
	b := book.New()
	b.Sign(1, []byte("a"))
	b.Sign(2, nil)
	b.Sign(-1, []byte("a"))
	list := []one{{1, "a", 1}, {2, "", 2}, {-1, "a", 3}}
	c := b.Clone()
	if c == b {
		t.Error("it is the same book")
	}
	wantBook(t, "the clone", c, list...)
	wantBook(t, "the original", b, list...)
	for _, x := range list {
		sign(t, c, x.by, []byte(x.text), x.mark, 3)
	}
}

func TestCloneOfAnEmptyBook(t *testing.T) {
	b := book.New()
	c := b.Clone()
	wantBook(t, "the clone", c)
	sign(t, c, 1, []byte("a"), 1, 1)
	wantBook(t, "the original", b)
	sign(t, b, 2, []byte("b"), 1, 1)
	wantBook(t, "the clone behind a signature", c, one{1, "a", 1})
	wantBook(t, "the original behind a signature", b, one{2, "b", 1})
}

func TestEachGoesItsOwnWay(t *testing.T) {
	b := book.New()
	b.Sign(1, []byte("a"))
	c := b.Clone()
	sign(t, b, 1, []byte("b"), 2, 2)
	wantBook(t, "the clone, the original has signed", c, one{1, "a", 1})
	sign(t, c, 2, []byte("c"), 2, 2)
	sign(t, c, 1, []byte("b"), 3, 3)
	wantBook(t, "the original, the clone has signed", b, one{1, "a", 1}, one{1, "b", 2})
	sign(t, b, 2, []byte("c"), 3, 3)
	sign(t, b, 1, []byte("a"), 1, 3)
	sign(t, c, 1, []byte("a"), 1, 3)
	wantBook(t, "the original", b, one{1, "a", 1}, one{1, "b", 2}, one{2, "c", 3})
	wantBook(t, "the clone", c, one{1, "a", 1}, one{2, "c", 2}, one{1, "b", 3})
}

func TestClonesOfOneBookAndOfClones(t *testing.T) {
	first := book.New()
	first.Sign(1, []byte("a"))
	second := first.Clone()
	third := second.Clone()
	other := first.Clone()
	sign(t, second, 1, []byte("b"), 2, 2)
	sign(t, third, 1, []byte("c"), 2, 2)
	sign(t, third, 1, []byte("d"), 3, 3)
	wantBook(t, "the first", first, one{1, "a", 1})
	wantBook(t, "its clone", second, one{1, "a", 1}, one{1, "b", 2})
	wantBook(t, "the clone of that", third, one{1, "a", 1}, one{1, "c", 2}, one{1, "d", 3})
	wantBook(t, "another clone of the first", other, one{1, "a", 1})
}

func TestCloneChangesNothing(t *testing.T) {
	b := book.New()
	for i := range 4 {
		sign(t, b, i, []byte("a"), i+1, i+1)
		b.Clone()
		sign(t, b.Clone(), 9, []byte("z"), i+2, i+2)
	}
	wantBook(t, "the original", b, one{0, "a", 1}, one{1, "a", 2}, one{2, "a", 3}, one{3, "a", 4})
}

func TestCloneOfManySignatures(t *testing.T) {
	b := book.New()
	const many = 3000
	for i := range many {
		b.Sign(i%5, []byte(strconv.Itoa(i)))
	}
	c := b.Clone()
	for i := range many {
		b.Sign(i%5+5, []byte(strconv.Itoa(i)))
	}
	if b.Len() != 2*many || c.Len() != many {
		t.Fatalf("Len %d, of the clone %d", b.Len(), c.Len())
	}
	for i := range many {
		text := []byte(strconv.Itoa(i))
		s, later := api.Sig{By: i % 5, Mark: i + 1}, api.Sig{By: i%5 + 5, Mark: many + i + 1}
		if !b.Right(s, text) || !c.Right(s, text) || !b.Right(later, text) || c.Right(later, text) {
			t.Fatalf("signature %d", i+1)
		}
	}
}
