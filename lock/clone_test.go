package lock_test

import (
	"testing"

	"gavel/api"
	"gavel/book"
)

// P11.1: Clone; R4

func TestCloneOfANewTable(t *testing.T) {
	b := book.New()
	x := certAt(b, 1, 1, 40)
	table := fresh(t, conf, 2)
	c := table.Clone()
	if c == nil || c == table {
		t.Fatalf("the clone of %p is %p", table, c)
	}
	wantHeld(t, "the clone", c)
	take(t, b, c, 2, 0, x)
	wantHeld(t, "the clone has taken one", c, x)
	wantHeld(t, "the original has not", table)
}

func TestCloneIsAsTheOriginalIs(t *testing.T) {
	b := book.New()
	c := api.Conf{F: 2, Clients: 99}
	x, y := certOf(b, 2, request(b, 98, 1, 1), 40), certOf(b, 2, request(b, 98, 2, 2), 30)
	table := fresh(t, c, 6)
	first := take(t, b, table, 6, 0, x)
	take(t, b, table, 6, 0, y)
	clone := table.Clone()
	wantHeld(t, "the clone", clone, x, y)
	repeat(t, "the clone", b, clone, 40, x, first)
	refuse(t, "the clone, another time", b, clone, 0, certOf(b, 2, x.Commit, 41), api.ErrThere)
	refuse(t, "the clone, another hash", b, clone, 0, certOf(b, 2, request(b, 98, 1, 3), 40), api.ErrThere)
	// Its replica, its size and its clients are the original's.
	refuse(t, "the clone, a client past the last", b, clone, 0, certOf(b, 2, request(b, 99, 1, 1), 40), api.ErrSig)
	refuse(t, "the clone, another size", b, clone, 0, certOf(b, 1, request(b, 97, 1, 1), 40), api.ErrSig)
	take(t, b, clone, 6, 0, certOf(b, 2, request(b, 97, 1, 1), 40))
	got, e := clone.Promise(b, 3, 39, 40)
	want := promiseBy(b, 6, api.Promise{Replica: 6, Epoch: 3, Floor: 40, Certs: clone.Held()[:2]})
	if !samePromise(got, want) || e != api.OK {
		t.Errorf("the clone promises %s (%d), want %s", brief(got), e, brief(want))
	}
	wantHeld(t, "the original", table, x, y)
}

func TestEachGoesItsOwnWay(t *testing.T) {
	b := book.New()
	l := certsAt(b, 10, 20, 30)
	table := filled(t, b, l[0], l[1])
	clone := table.Clone()
	take(t, b, table, 2, 0, l[2])
	wantHeld(t, "the clone, the original has taken one", clone, l[0], l[1])
	// What one took, the other may take with another hash and another time.
	other := certOf(b, 1, request(b, 2, 1, 9), 7)
	take(t, b, clone, 2, 0, other)
	wantHeld(t, "the original, the clone has taken one", table, l...)
	wantForget(t, clone, 1, l[0].Commit.Name)
	wantHeld(t, "the original, the clone has forgotten one", table, l...)
	wantForget(t, table, 1, l[1].Commit.Name)
	wantHeld(t, "the original", table, l[0], l[2])
	wantHeld(t, "the clone", clone, l[1], other)
	refuse(t, "the original", b, table, 0, other, api.ErrThere)
	refuse(t, "the clone", b, clone, 0, l[2], api.ErrThere)
	promises(t, "the original", b, table, 0, 0, 50, l[0], l[2])
	promises(t, "the clone", b, clone, 0, 0, 50, l[1], other)
}

func TestClonesOfClones(t *testing.T) {
	b := book.New()
	l := certsAt(b, 10, 20, 30, 40, 50, 60)
	first := filled(t, b, l[0])
	second := first.Clone()
	third := second.Clone()
	fourth := first.Clone()
	take(t, b, second, 2, 0, l[1])
	take(t, b, third, 2, 0, l[2])
	wantForget(t, fourth, 1, l[0].Commit.Name)
	wantHeld(t, "the first", first, l[0])
	wantHeld(t, "its clone", second, l[0], l[1])
	wantHeld(t, "the clone of that", third, l[0], l[2])
	wantHeld(t, "another clone of the first", fourth)
}

func TestCloneOfAFullTable(t *testing.T) {
	b := book.New()
	l := certsAt(b, same(api.MaxCerts+1, 40)...)
	table := filled(t, b, l[:api.MaxCerts]...)
	clone := table.Clone()
	refuse(t, "the clone", b, clone, 0, l[api.MaxCerts], api.ErrLimit)
	wantForget(t, table, 1, l[0].Commit.Name)
	refuse(t, "the clone, the original has forgotten one", b, clone, 0, l[api.MaxCerts], api.ErrLimit)
	take(t, b, table, 2, 0, l[api.MaxCerts])
	wantHeld(t, "the original", table, l[1:]...)
	wantHeld(t, "the clone", clone, l[:api.MaxCerts]...)
}

func TestTablesAndClonesHandOutMemoryOfTheirOwn(t *testing.T) {
	b := book.New()
	l := certsAt(b, 10, 20, 30)
	want := copied(l)
	table := filled(t, b, l...)
	clone := table.Clone()
	p, _ := table.Promise(b, 0, 0, 50)
	for _, got := range [][]api.Cert{table.Held(), p.Certs} {
		wipe(got)
	}
	wantHeld(t, "the clone", clone, want...)
	one, _ := clone.Get(want[0].Commit.Name)
	for _, got := range [][]api.Cert{clone.Held(), {one}} {
		wipe(got)
	}
	wantHeld(t, "the original", table, want...)
	wantHeld(t, "the clone", clone, want...)
}
