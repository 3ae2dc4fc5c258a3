package ledger_test

import (
	"testing"

	"gavel/api"
	"gavel/ledger"
)

// P15.2: Next, Done

func TestNextOfOpenPlaces(t *testing.T) {
	for n := range 4 {
		l := log(t, n)
		wantNext(t, l, -1)
		done(t, l, false)
		wantNext(t, l, -1)
	}
}

// Places are done in their order, each once, and none ahead of one that is open.
func TestNextInOrder(t *testing.T) {
	l := log(t, 4)
	apply(t, l, opens(1, 20, opening(2, "c")), 0)
	wantNext(t, l, -1)
	done(t, l, false)
	apply(t, l, buries(2, 30, 1), 0)
	wantNext(t, l, -1)
	done(t, l, false)
	apply(t, l, opens(3, 40, opening(0, "a")), 0)
	for i := range 3 {
		wantNext(t, l, i)
		wantNext(t, l, i)
		done(t, l, true)
	}
	wantNext(t, l, -1)
	done(t, l, false)
	apply(t, l, buries(4, 50, 3), 0)
	wantNext(t, l, 3)
	done(t, l, true)
	wantNext(t, l, -1)
	done(t, l, false)
	done(t, l, false)
}

// At the end, one more place is next once it is there, and open no more.
func TestNextBehindTheEnd(t *testing.T) {
	l := log(t, 1)
	apply(t, l, opens(1, 20, opening(0, "")), 0)
	wantNext(t, l, 0)
	done(t, l, true)
	done(t, l, false)
	apply(t, l, closing(2, 30, entry(0, 9, 1, 25), entry(1, 9, 1, 25)), 2)
	wantNext(t, l, -1)
	done(t, l, false)
	apply(t, l, opens(3, 40, opening(2, "c")), 0)
	wantNext(t, l, -1)
	apply(t, l, buries(4, 50, 1), 0)
	wantNext(t, l, 1)
	done(t, l, true)
	wantNext(t, l, 2)
	done(t, l, true)
	wantNext(t, l, -1)
}

// What is done of a place changes nothing but what is next.
func TestDoneChangesNothingElse(t *testing.T) {
	l := log(t, 3)
	apply(t, l, api.Batch{Epoch: 1, Time: 20, Openings: open(opening(0, "a"), opening(2, "c")), Tombs: tombs(1)}, 0)
	for i := range 3 {
		c := l.Clone()
		done(t, l, true)
		if next, _ := c.Next(); next != i || c.Len() != l.Len() || c.Epoch() != l.Epoch() || c.Last() != l.Last() {
			t.Errorf("behind %d: next was %d, now %d places, epoch %d, last time %d", i, next, l.Len(), l.Epoch(), l.Last())
		}
		wantLog(t, l, places(3)...)
		wantStatus(t, l, "=a", "x", "=c")
	}
}

// For each way in which the first places can stand.
func TestNextOfEachStanding(t *testing.T) {
	for x := range 81 {
		l := log(t, 4)
		b := api.Batch{Epoch: 1, Time: 20}
		ends := 0
		for i, left := 0, x; i < 4; i, left = i+1, left/3 {
			switch left % 3 {
			case 1:
				b.Openings = append(b.Openings, opening(i, "p"))
			case 2:
				b.Tombs = append(b.Tombs, tombs(i)...)
			}
			if left%3 != 0 && ends == i {
				ends++
			}
		}
		apply(t, l, b, 0)
		for i := range ends {
			wantNext(t, l, i)
			done(t, l, true)
		}
		wantNext(t, l, -1)
		done(t, l, false)
	}
}

func TestDoneOfANewOne(t *testing.T) {
	l := ledger.New()
	done(t, l, false)
	apply(t, l, closing(0, 10, places(2)...), 2)
	done(t, l, false)
	apply(t, l, opens(1, 20, opening(0, "a"), opening(1, "b")), 0)
	wantNext(t, l, 0)
}
