package ledger_test

import (
	"testing"

	"gavel/api"
	"gavel/ledger"
)

// P15.1: New; P15.2: Entry, Index

func TestNew(t *testing.T) {
	l := ledger.New()
	if l == nil {
		t.Fatal("nil")
	}
	if l.Epoch() != 0 || l.Last() != 0 || l.Len() != 0 {
		t.Errorf("epoch %d, last time %d, %d places", l.Epoch(), l.Last(), l.Len())
	}
	wantLog(t, l)
	wantStatus(t, l)
	wantNext(t, l, -1)
	done(t, l, false)
	want(t, "a new one", l, &plain{})
	wantNoNames(t, l)
}

// wantNoNames expects that names that stand nowhere are nowhere.
func wantNoNames(t *testing.T, l *ledger.Ledger) {
	t.Helper()
	for _, n := range append(strange, name(0, 2), name(1, 0), name(2, 2)) {
		if i, ok := l.Index(n); i != 0 || ok {
			t.Errorf("%v is at %d (%v)", n, i, ok)
		}
	}
}

func TestNewIsAnotherOne(t *testing.T) {
	l, other := ledger.New(), ledger.New()
	apply(t, l, closing(0, 10, places(3)...), 3)
	want(t, "another new one", other, &plain{})
}

func TestConstants(t *testing.T) {
	if ledger.Open != 1 || ledger.Opened != 2 || ledger.Buried != 3 {
		t.Error(ledger.Open, ledger.Opened, ledger.Buried)
	}
}

func TestEntryAndIndex(t *testing.T) {
	for n := range 6 {
		l := log(t, n)
		wantLog(t, l, places(n)...)
		wantNoNames(t, l)
		// What has become of a place does not bear on what stands there.
		apply(t, l, opens(1, 20, opening(0, "a"), opening(3, "b")), 0)
		apply(t, l, buries(2, 30, 1, 2, 4), 0)
		for l.Done() {
		}
		wantLog(t, l, places(n)...)
		wantNoNames(t, l)
	}
}

// A name is client and number, both of them, and whatever they are: neither is asked to be one that there is.
func TestIndexOfNamesNearby(t *testing.T) {
	l := ledger.New()
	in := []api.Entry{entry(1, 2, 1, 1), entry(2, 1, 1, 2), entry(-1, 2, 1, 3), entry(0, 0, 1, 4), entry(1, -2, 1, 5), entry(1<<32+1, 2, 1, 6), entry(1, 1<<32+2, 1, 7)}
	apply(t, l, closing(0, 10, in...), len(in))
	wantLog(t, l, in...)
	for _, n := range []api.Name{name(1, 1), name(2, 2), name(-1, -2), name(0, 2), name(1, 0), name(-2, 1), name(1<<32+2, 1)} {
		if i, ok := l.Index(n); i != 0 || ok {
			t.Errorf("%v is at %d (%v)", n, i, ok)
		}
	}
}
