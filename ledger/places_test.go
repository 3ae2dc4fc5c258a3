package ledger_test

import (
	"slices"
	"testing"

	"gavel/api"
	"gavel/ledger"
)

// P15.1: Apply: what becomes of places; P15.2: Status

// ended is the log of five open places behind a batch of the epoch 1 with these openings and tombstones.
func ended(t *testing.T, openings []api.Opening, tombs []api.Tomb) *ledger.Ledger {
	t.Helper()
	l := log(t, 5)
	apply(t, l, api.Batch{Epoch: 1, Time: 20, Openings: openings, Tombs: tombs}, 0)
	wantLog(t, l, places(5)...)
	return l
}

func open(l ...api.Opening) []api.Opening { return l }

// only is what became of five open places where that became of place i.
func only(i int, s string) []string {
	l := slices.Repeat([]string{"-"}, 5)
	l[i] = s
	return l
}

func TestStatusOfOpenPlaces(t *testing.T) {
	for n := range 5 {
		wantStatus(t, log(t, n), slices.Repeat([]string{"-"}, n)...)
	}
}

func TestOpenings(t *testing.T) {
	wantStatus(t, ended(t, nil, nil), "-", "-", "-", "-", "-")
	wantStatus(t, ended(t, open(opening(0, "first")), nil), "=first", "-", "-", "-", "-")
	wantStatus(t, ended(t, open(opening(4, "last")), nil), "-", "-", "-", "-", "=last")
	wantStatus(t, ended(t, open(opening(3, "c"), opening(1, "b"), opening(4, "a")), nil), "-", "=b", "-", "=c", "=a")
	wantStatus(t, ended(t, open(opening(2, "a\x00\xffb")), nil), "-", "-", "=a\x00\xffb", "-", "-")
}

func TestTombs(t *testing.T) {
	wantStatus(t, ended(t, nil, tombs(0)), "x", "-", "-", "-", "-")
	wantStatus(t, ended(t, nil, tombs(4)), "-", "-", "-", "-", "x")
	wantStatus(t, ended(t, nil, tombs(3, 1, 4)), "-", "x", "-", "x", "x")
	wantStatus(t, ended(t, open(opening(2, "a"), opening(0, "b")), tombs(4, 1)), "=b", "x", "=a", "-", "x")
}

func TestEmptyPayload(t *testing.T) {
	for _, empty := range [][]byte{nil, {}, []byte("abc")[:0]} {
		l := ended(t, open(api.Opening{Index: 1, Payload: empty}, opening(2, "a")), nil)
		wantStatus(t, l, "-", "=", "=a", "-", "-")
		// It is opened for good, as with any other payload.
		apply(t, l, opens(2, 30, opening(1, "later")), 0)
		apply(t, l, buries(3, 40, 1), 0)
		wantStatus(t, l, "-", "=", "=a", "-", "-")
	}
}

// Places that there are not: nothing becomes of them, nor of others by them.
func TestEndsOfNoPlace(t *testing.T) {
	for _, i := range append([]int{-5, -4, -2, -1, 5, 6, 10, 1 << 8, 1<<8 + 1, 1<<16 + 1}, far...) {
		l := ended(t, open(opening(i, "a"), opening(2, "b"), opening(i, "c")), tombs(i, 3, i))
		wantStatus(t, l, "-", "-", "=b", "x", "-")
		empty := ledger.New()
		apply(t, empty, api.Batch{Time: 1, Openings: open(opening(i, "a")), Tombs: tombs(i)}, 0)
		wantStatus(t, empty)
	}
	l := ledger.New()
	apply(t, l, api.Batch{Time: 1, Openings: open(opening(0, "a"), opening(1, "b")), Tombs: tombs(0, 1)}, 0)
	wantStatus(t, l)
	wantNext(t, l, -1)
}

// A place that a batch only puts behind the log is not open yet for its openings and tombstones.
func TestEndsOfPlacesToCome(t *testing.T) {
	x := closing(1, 20, entry(0, 50, 1, 12), entry(1, 50, 2, 11))
	x.Openings = open(opening(5, "a"), opening(1, "b"))
	x.Tombs = tombs(6, 2)
	l := log(t, 5)
	apply(t, l, x, 2)
	wantStatus(t, l, "-", "=b", "x", "-", "-", "-", "-")
	apply(t, l, api.Batch{Epoch: 2, Time: 30, Openings: open(opening(5, "c")), Tombs: tombs(6)}, 0)
	wantStatus(t, l, "-", "=b", "x", "-", "-", "=c", "x")
	first := closing(0, 20, entry(0, 50, 1, 12))
	first.Openings, first.Tombs = open(opening(0, "a")), tombs(0)
	l = ledger.New()
	apply(t, l, first, 1)
	wantStatus(t, l, "-")
}

// One place twice in one batch: the first opening holds, and an opening rather than a tombstone, wherever they stand.
func TestOnePlaceTwiceInABatch(t *testing.T) {
	for i := range 5 {
		wantStatus(t, ended(t, open(opening(i, "a"), opening(i, "b")), nil), only(i, "=a")...)
		wantStatus(t, ended(t, open(opening(i, ""), opening(i, "b"), opening(i, "c")), nil), only(i, "=")...)
		wantStatus(t, ended(t, nil, tombs(i, i)), only(i, "x")...)
		wantStatus(t, ended(t, open(opening(i, "a")), tombs(i)), only(i, "=a")...)
		wantStatus(t, ended(t, open(opening(i, "a"), opening(i, "b")), tombs(i, i)), only(i, "=a")...)
		wantStatus(t, ended(t, open(opening(i, "")), tombs(i)), only(i, "=")...)
	}
}

// One place in two batches: the first holds.
func TestOnePlaceInTwoBatches(t *testing.T) {
	for i := range 5 {
		for _, first := range []string{"=a", "=", "x"} {
			l := log(t, 5)
			if first == "x" {
				apply(t, l, buries(1, 20, i), 0)
			} else {
				apply(t, l, opens(1, 20, opening(i, first[1:])), 0)
			}
			wantStatus(t, l, only(i, first)...)
			apply(t, l, opens(2, 30, opening(i, "b")), 0)
			wantStatus(t, l, only(i, first)...)
			apply(t, l, buries(3, 40, i), 0)
			wantStatus(t, l, only(i, first)...)
			apply(t, l, api.Batch{Epoch: 4, Time: 50, Openings: open(opening(i, "")), Tombs: tombs(i)}, 0)
			wantStatus(t, l, only(i, first)...)
		}
	}
}

// Whether an opening is what was committed to, and whether a tombstone is right, is not asked.
func TestEndsAreNotAskedWhetherTheyAreRight(t *testing.T) {
	l := log(t, 3)
	apply(t, l, api.Batch{Epoch: 1, Time: 20, Openings: []api.Opening{{Index: 0, Payload: []byte("a"), Nonce: hashOf(77)}}, Tombs: []api.Tomb{{Index: 1}, {Index: 2, Denies: []api.Deny{{Index: 9}}}}}, 0)
	wantStatus(t, l, "=a", "x", "x")
}

// Having been done bears on no status.
func TestStatusOfPlacesThatAreDone(t *testing.T) {
	l := ended(t, open(opening(0, "a"), opening(2, "b")), tombs(1))
	for l.Done() {
	}
	wantStatus(t, l, "=a", "x", "=b", "-", "-")
	apply(t, l, api.Batch{Epoch: 2, Time: 30, Openings: open(opening(1, "c")), Tombs: tombs(0, 2)}, 0)
	wantStatus(t, l, "=a", "x", "=b", "-", "-")
}
