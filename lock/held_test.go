package lock_test

import (
	"math/rand"
	"slices"
	"testing"

	"gavel/api"
	"gavel/book"
	"gavel/lock"
)

// P11.1: Get, Held, Len, Forget

// spread are certificates of names that numbers, texts or hashes would order otherwise, by rising names.
func spread(b *book.Book) []api.Cert {
	var l []api.Cert
	for _, client := range []int{0, 1, 2} {
		for i, seq := range []int{1, 2, 9, 10, 11, 99, 100, 255, 256, 300, 65536, api.MaxSeq} {
			x := request(b, client, seq, 7*i+client)
			l = append(l, certOf(b, 1, x, uint64(1000-70*i-client)))
		}
	}
	return l
}

func TestHeldByRisingNames(t *testing.T) {
	b := book.New()
	l := spread(b)
	r := rand.New(rand.NewSource(11))
	for range 40 {
		table := fresh(t, conf, 2)
		for _, i := range r.Perm(len(l)) {
			if _, e := table.Take(b, 0, l[i]); e != api.OK {
				t.Fatal(e)
			}
		}
		wantHeld(t, "in any order", table, l...)
	}
}

func TestHeldOfManyClients(t *testing.T) {
	b := book.New()
	table := fresh(t, api.Conf{F: 1, Clients: api.MaxClients}, 2)
	var l []api.Cert
	for i := range api.MaxCerts {
		// From the last client on down; 7 is prime to 100.
		x := certAt(b, 99-i*7%100, i%2+1, 40)
		l = append(l, x)
		take(t, b, table, 2, 0, x)
	}
	slices.SortFunc(l, func(x, y api.Cert) int {
		return (x.Commit.Name.Client-y.Commit.Name.Client)*10 + x.Commit.Name.Seq - y.Commit.Name.Seq
	})
	wantHeld(t, "many clients", table, l...)
}

func TestGetOfNeighbours(t *testing.T) {
	b := book.New()
	for _, x := range []api.Cert{certAt(b, 1, 2, 40), certAt(b, 2, 1, 40), certAt(b, 0, api.MaxSeq, 40)} {
		wantHeld(t, "one alone", filled(t, b, x), x)
	}
}

func TestForgetOneByOne(t *testing.T) {
	b := book.New()
	l := spread(b)
	table := filled(t, b, l...)
	r := rand.New(rand.NewSource(12))
	left := slices.Clone(l)
	for len(left) > 0 {
		i := r.Intn(len(left))
		n := left[i].Commit.Name
		left = slices.Delete(left, i, i+1)
		wantForget(t, table, 1, n)
		wantHeld(t, "one less", table, left...)
		wantForget(t, table, 0, n)
	}
	wantHeld(t, "all forgotten", table)
}

func wantForget(t *testing.T, table *lock.Table, want int, l ...api.Name) {
	t.Helper()
	before := slices.Clone(l)
	if got := table.Forget(l...); got != want {
		t.Errorf("Forget of %v: %d, want %d", l, got, want)
	}
	if !slices.Equal(l, before) {
		t.Error("what was handed in is changed")
	}
}

func TestForgetLists(t *testing.T) {
	b := book.New()
	l := certsAt(b, 10, 20, 30, 40, 50, 60) // two of each client
	n := func(i int) api.Name { return l[i].Commit.Name }
	for _, x := range []struct {
		names []api.Name
		want  int
		left  []api.Cert
	}{
		{nil, 0, l},
		{[]api.Name{}, 0, l},
		{[]api.Name{n(0)}, 1, l[1:]},
		{[]api.Name{n(5)}, 1, l[:5]},
		{[]api.Name{n(5), n(0)}, 2, l[1:5]},
		{[]api.Name{n(0), n(0)}, 1, l[1:]},
		{[]api.Name{n(0), n(1), n(0), n(1), n(1)}, 2, l[2:]},
		{[]api.Name{n(3), n(1), n(2), n(5), n(4), n(0)}, 6, nil},
		{[]api.Name{n(3), n(1), n(2), n(5), n(4), n(0), n(3)}, 6, nil},
		{[]api.Name{{}, name(0, 0), name(0, 3), name(3, 1), name(-1, 1), name(1, -1)}, 0, l},
		{[]api.Name{name(0, 3), n(0), name(3, 1), n(1), name(9, 9)}, 2, l[2:]},
		{names(), 6, nil},
	} {
		table := filled(t, b, l...)
		wantForget(t, table, x.want, x.names...)
		wantHeld(t, "then", table, x.left...)
		wantForget(t, table, 0, x.names...)
		wantHeld(t, "once more", table, x.left...)
	}
	if got := filled(t, b, l...).Forget(); got != 0 {
		t.Errorf("Forget of nothing: %d", got)
	}
}

func TestForgetHoldsTheWholeName(t *testing.T) {
	b := book.New()
	x, y, z := certAt(b, 1, 2, 40), certAt(b, 1, 1, 40), certAt(b, 2, 2, 40)
	table := filled(t, b, x, y, z)
	wantForget(t, table, 1, name(1, 2))
	wantHeld(t, "then", table, y, z)
	wantForget(t, table, 0, name(2, 1))
	wantHeld(t, "then", table, y, z)
}

func TestTakeAgainWhatWasForgotten(t *testing.T) {
	b := book.New()
	x := certAt(b, 1, 1, 40)
	table := fresh(t, conf, 2)
	first := take(t, b, table, 2, 0, x)
	wantForget(t, table, 1, name(1, 1))
	// Nothing is known of it: not its time, not its hash. (The ack has the mark that its text has.)
	refuse(t, "at the floor", b, table, 40, x, api.ErrTime)
	if got, e := table.Take(b, 39, x); got != first || e != api.OK {
		t.Errorf("the same: %v (%d), want %v", got, e, first)
	}
	wantHeld(t, "the same", table, x)
	wantForget(t, table, 1, name(1, 1))
	late := certOf(b, 1, x.Commit, 41)
	take(t, b, table, 2, 40, late)
	wantHeld(t, "another time", table, late)
	refuse(t, "the first time", b, table, 0, x, api.ErrThere)
	wantForget(t, table, 1, name(1, 1))
	other := certOf(b, 1, request(b, 1, 1, 2), 3)
	take(t, b, table, 2, 2, other)
	wantHeld(t, "another hash", table, other)
	refuse(t, "the first hash", b, table, 0, x, api.ErrThere)
}

func TestForgetOfAFullTableMakesRoom(t *testing.T) {
	b := book.New()
	l := certsAt(b, same(api.MaxCerts+3, 40)...)
	table := filled(t, b, l[:api.MaxCerts]...)
	wantForget(t, table, 3, l[0].Commit.Name, l[63].Commit.Name, l[7].Commit.Name, l[7].Commit.Name)
	for _, x := range l[api.MaxCerts:] {
		take(t, b, table, 2, 0, x)
	}
	refuse(t, "full again", b, table, 0, l[0], api.ErrLimit)
	want := slices.Concat(l[1:7], l[8:63], l[64:])
	wantHeld(t, "full again", table, want...)
}

func TestForgetReadsNoMemoryBehindTheList(t *testing.T) {
	b := book.New()
	l := certsAt(b, 10, 20, 30)
	table := filled(t, b, l...)
	all := []api.Name{l[0].Commit.Name, l[1].Commit.Name, l[2].Commit.Name}
	wantForget(t, table, 1, all[:1]...)
	wantHeld(t, "then", table, l[1:]...)
	if all[1] != l[1].Commit.Name || all[2] != l[2].Commit.Name {
		t.Error("what lies behind the list is changed")
	}
}

func TestWhatIsHandedBackSharesNothing(t *testing.T) {
	b := book.New()
	l := certsAt(b, 10, 20, 30, 40)
	want := copied(l)
	table := filled(t, b, l...)
	one, other := table.Held(), table.Held()
	got, _ := table.Get(l[1].Commit.Name)
	again, _ := table.Get(l[1].Commit.Name)
	p, _ := table.Promise(b, 0, 5, 35)
	wipe(one)
	wipe([]api.Cert{got})
	wipe(p.Certs)
	if !sameCerts(other, want) || !sameCert(again, want[1]) {
		t.Error("two answers share memory")
	}
	wantHeld(t, "what was handed back is wiped", table, want...)
	q, _ := table.Promise(b, 0, 5, 35)
	if !sameCerts(q.Certs, want[:3]) {
		t.Errorf("it promises %s", brief(q))
	}
}

// Two lists of one answer lie apart: what is put behind one is not the beginning of the next.
func TestListsOfOneAnswerLieApart(t *testing.T) {
	b := book.New()
	l := certsAt(b, 10, 20, 30, 40)
	table := filled(t, b, l...)
	p, _ := table.Promise(b, 0, 0, 50)
	for _, got := range [][]api.Cert{table.Held(), p.Certs} {
		for i := range got {
			_ = append(got[i].Stamps, api.Stamp{Replica: 9})
			clear(got[i].Stamps[:cap(got[i].Stamps)])
			if !sameCerts(got[i+1:], l[i+1:]) {
				t.Fatal("they share memory")
			}
		}
	}
}

func TestLooksChangeNothing(t *testing.T) {
	b := book.New()
	l := certsAt(b, 10, 20, 30)
	table := filled(t, b, l...)
	marks := b.Len()
	for range 3 {
		for _, n := range names() {
			table.Get(n)
		}
		wantHeld(t, "looked at", table, l...)
		table.Clone()
	}
	if b.Len() != marks {
		t.Error("something was signed")
	}
}
