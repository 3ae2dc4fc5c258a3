package stamp_test

import (
	"testing"

	"gavel/api"
	"gavel/book"
)

// P9.2: Clone; R4

func TestCloneOfANewOne(t *testing.T) {
	b := book.New()
	x := request(b, 1, 1, 1)
	s := fresh(t, conf, 2)
	c := s.Clone()
	if c == nil || c == s {
		t.Fatalf("the clone of %p is %p", s, c)
	}
	wantTimes(t, "the clone", c, 0, 0)
	wantStamps(t, "the clone", c)
	got := give(t, b, c, x, 1)
	wantStamps(t, "the clone has stamped", c, got)
	wantStamps(t, "the original has not", s)
	wantNext(t, "the original", s, 1)
}

func TestCloneIsAsTheOriginalIs(t *testing.T) {
	b := book.New()
	x, y := request(b, 98, 1, 1), request(b, 98, 2, 2)
	s := fresh(t, api.Conf{F: 2, Clients: 99}, 6)
	s.Tick(5)
	first := give(t, b, s, x, 5)
	answers(t, "Raise", s.Raise(3), api.OK)
	second := give(t, b, s, y, 6)
	c := s.Clone()
	if c == s {
		t.Fatal("it is the same stamper")
	}
	wantTimes(t, "the clone", c, 5, 3)
	wantStamps(t, "the clone", c, first, second)
	repeat(t, "the clone", b, c, x, first)
	refuse(t, "the clone, another hash", b, c, request(b, 98, 1, 3), api.ErrThere)
	refuse(t, "the clone, a client past the last", b, c, request(b, 99, 1, 1), api.ErrSig)
	// Its last time, its replica and its clients are the original's.
	if third := give(t, b, c, request(b, 97, 1, 1), 7); third.Replica != 6 {
		t.Errorf("the clone stamps as %d", third.Replica)
	}
	wantTimes(t, "the original", s, 5, 3)
	wantStamps(t, "the original", s, first, second)
}

func TestEachGoesItsOwnWay(t *testing.T) {
	b := book.New()
	x, y, z := request(b, 0, 1, 1), request(b, 1, 1, 2), request(b, 2, 1, 3)
	s := fresh(t, conf, 2)
	s.Tick(5)
	first := give(t, b, s, x, 5)
	c := s.Clone()
	s.Tick(10)
	wantTimes(t, "the clone, the original has ticked", c, 5, 0)
	answers(t, "Raise", c.Raise(30), api.OK)
	wantTimes(t, "the original, the clone is raised", s, 15, 0)
	ys := give(t, b, s, y, 15)
	wantStamps(t, "the clone, the original has stamped", c, first)
	// What one gave, the other may give another hash and another time.
	other := give(t, b, c, request(b, 1, 1, 9), 31)
	zc := give(t, b, c, z, 32)
	wantStamps(t, "the original, the clone has stamped", s, first, ys)
	c.Tick(end)
	refuse(t, "the clone at the end of time", b, c, request(b, 2, 2, 1), api.ErrTime)
	answers(t, "Raise", s.Raise(15), api.OK)
	zs := give(t, b, s, z, 16)
	wantTimes(t, "the original", s, 15, 15)
	wantTimes(t, "the clone", c, end, 30)
	wantStamps(t, "the original", s, first, ys, zs)
	wantStamps(t, "the clone", c, first, other, zc)
	repeat(t, "the original", b, s, y, ys)
	refuse(t, "the clone", b, c, y, api.ErrThere)
	repeat(t, "the clone", b, c, z, zc)
}

func TestClonesOfOneStamperAndOfClones(t *testing.T) {
	b := book.New()
	s := fresh(t, conf, 2)
	one := give(t, b, s, request(b, 0, 1, 1), 1)
	second := s.Clone()
	third := second.Clone()
	other := s.Clone()
	two := give(t, b, second, request(b, 1, 1, 2), 2)
	third.Tick(4)
	three := give(t, b, third, request(b, 1, 1, 2), 4)
	four := give(t, b, third, request(b, 1, 2, 2), 5)
	wantStamps(t, "the first", s, one)
	wantStamps(t, "its clone", second, one, two)
	wantStamps(t, "the clone of that", third, one, three, four)
	wantStamps(t, "another clone of the first", other, one)
	wantTimes(t, "the clone of that", third, 4, 0)
	wantTimes(t, "its clone", second, 0, 0)
	wantNext(t, "the first", s, 2)
	wantNext(t, "its clone", second, 3)
	wantNext(t, "another clone of the first", other, 2)
}

func TestCloneChangesNothing(t *testing.T) {
	b := book.New()
	s := fresh(t, conf, 2)
	var l []api.Stamp
	for i := range 5 {
		l = append(l, give(t, b, s, request(b, 0, i+1, i), uint64(i+1)))
		spoilt := s.Clone()
		spoilt.Tick(uint64(100 + i))
		answers(t, "Raise", spoilt.Raise(200), api.OK)
		give(t, b, spoilt, request(b, 1, i+1, 7), 201)
		wantTimes(t, "the original", s, 0, 0)
		wantStamps(t, "the original", s, l...)
	}
}

func TestCloneOfManyStamps(t *testing.T) {
	b := book.New()
	s := fresh(t, conf, 2)
	const many = 2000
	var l, later []api.Stamp
	for i := range many {
		l = append(l, give(t, b, s, request(b, 0, i+1, i), uint64(i+1)))
	}
	c := s.Clone()
	for i := range many {
		later = append(later, give(t, b, s, request(b, 1, i+1, i), uint64(many+i+1)))
	}
	wantStamps(t, "the clone", c, l...)
	wantStamps(t, "the original", s, append(later, l...)...)
	for i, x := range l {
		repeat(t, "the clone", b, c, request(b, 0, i+1, i), x)
	}
}
