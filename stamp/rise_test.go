package stamp_test

import (
	"math/rand"
	"testing"

	"gavel/api"
	"gavel/book"
	"gavel/stamp"
)

// P9.3: times rise, each name has one, none is below or at the floor that there was.

// life is a stamper with what it gave so far, the oldest first.
type life struct {
	book  *book.Book
	s     *stamp.Stamper
	given []api.Stamp
	floor uint64 // the greatest one that it was ever raised to
}

func newLife(t *testing.T) *life {
	t.Helper()
	return &life{book: book.New(), s: fresh(t, conf, 2)}
}

// last is the greatest time that it gave.
func (l *life) last() uint64 {
	most := uint64(0)
	for _, x := range l.given {
		most = max(most, x.Time)
	}
	return most
}

// raise raises it, which may not be, and never lowers the floor.
func (l *life) raise(t *testing.T, to uint64) {
	t.Helper()
	if l.s.Raise(to) == api.OK {
		l.floor = max(l.floor, to)
	}
	if l.s.Floor() != l.floor {
		t.Fatalf("raised to %d the floor is %d, want %d", to, l.s.Floor(), l.floor)
	}
}

// tick never moves the clock back.
func (l *life) tick(t *testing.T, n uint64) {
	t.Helper()
	before := l.s.Now()
	if l.s.Tick(n); l.s.Now() < before {
		t.Fatalf("behind a Tick of %d the clock is %d, it was %d", n, l.s.Now(), before)
	}
}

// stamp has the next name stamped, which no name was, and holds its time against all that P9.3 says.
func (l *life) stamp(t *testing.T) {
	t.Helper()
	n := len(l.given)
	x := request(l.book, n%3, n/3+1, n)
	got, e := l.s.Stamp(l.book, x)
	if e == api.ErrTime && (l.s.Now() == end || l.floor == end-1 || l.last() == end-1) {
		return
	}
	if e != api.OK || got.Time <= l.last() || got.Time <= l.floor || got.Time < l.s.Now() || got.Time == end {
		t.Fatalf("stamp %d: time %d (%d), clock %d, floor %d, last time %d", n, got.Time, e, l.s.Now(), l.floor, l.last())
	}
	l.given = append(l.given, got)
}

// same expects that each name has the one time that it was given.
func (l *life) same(t *testing.T) {
	t.Helper()
	if l.s.Len() != len(l.given) {
		t.Fatalf("Len %d, want %d", l.s.Len(), len(l.given))
	}
	for i, x := range l.given {
		if h, time, ok := l.s.Of(x.Name); h != x.Hash || time != x.Time || !ok {
			t.Fatalf("Of %v: %x, %d, %v, want %x, %d", x.Name, h, time, ok, x.Hash, x.Time)
		}
		if got, e := l.s.Stamp(l.book, request(l.book, i%3, i/3+1, i)); got != x || e != api.OK {
			t.Fatalf("stamped again: %v (%d), want %v", got, e, x)
		}
		if got, e := l.s.Stamp(l.book, request(l.book, i%3, i/3+1, i+1)); got != (api.Stamp{}) || e != api.ErrThere {
			t.Fatalf("stamped with another hash: %v (%d)", got, e)
		}
	}
}

func TestTimesRiseOfEachNewOne(t *testing.T) {
	for replica := range 4 {
		l := newLife(t)
		l.s = fresh(t, conf, replica)
		for range 30 {
			l.stamp(t)
		}
		l.same(t)
	}
}

func TestTimesRiseWhateverTicks(t *testing.T) {
	for _, n := range times() {
		l := newLife(t)
		for _, more := range []uint64{0, n, 0, 1, n, 1, 2} {
			l.tick(t, more)
			l.stamp(t)
			l.stamp(t)
			l.same(t)
		}
	}
}

func TestNoTimeIsBelowOrAtTheFloor(t *testing.T) {
	for _, first := range times() {
		for _, then := range times() {
			l := newLife(t)
			l.stamp(t)
			for _, to := range []uint64{first, then, 0, l.last(), l.last() + 1, l.s.Now(), end} {
				l.raise(t, to)
				l.stamp(t)
				l.stamp(t)
			}
			l.same(t)
		}
	}
}

// What was stamped keeps its time, though it is below the floor by then.
func TestEachNameHasOneTime(t *testing.T) {
	l := newLife(t)
	for i := range 40 {
		l.stamp(t)
		l.same(t)
		l.tick(t, uint64(i%3))
		l.raise(t, l.last()+uint64(i%4))
		l.same(t)
	}
	if len(l.given) != 40 {
		t.Errorf("%d stamps", len(l.given))
	}
	l.tick(t, end)
	l.raise(t, end-1)
	l.stamp(t)
	l.same(t)
}

func TestTimesOfAStamperAndItsCloneRise(t *testing.T) {
	for _, n := range []uint64{0, 1, 5, end - 10, end - 1} {
		l := newLife(t)
		l.tick(t, n)
		l.raise(t, 3)
		l.stamp(t)
		l.stamp(t)
		c := &life{book: l.book.Clone(), s: l.s.Clone(), given: append([]api.Stamp{}, l.given...), floor: l.floor}
		for i := range 10 {
			l.tick(t, 2)
			c.raise(t, c.last()+uint64(i%3)-1)
			l.stamp(t)
			c.stamp(t)
			c.stamp(t)
		}
		l.same(t)
		c.same(t)
	}
}

func TestTimesRiseInManyOrders(t *testing.T) {
	r := rand.New(rand.NewSource(11))
	for range 200 {
		l := newLife(t)
		if r.Intn(4) == 0 {
			l.tick(t, end-uint64(r.Intn(100)))
		}
		for range 80 {
			switch r.Intn(6) {
			case 0:
				l.tick(t, uint64(r.Intn(6)))
			case 1:
				l.raise(t, l.last()+uint64(r.Intn(6))-3)
			case 2:
				l.raise(t, l.s.Now()+uint64(r.Intn(6))-3)
			case 3:
				l.s = l.s.Clone()
			default:
				l.stamp(t)
			}
		}
		l.same(t)
	}
}
