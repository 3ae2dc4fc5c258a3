package ledger_test

import (
	"fmt"
	"maps"
	"math"
	"slices"
	"testing"

	"gavel/api"
	"gavel/batch"
	"gavel/book"
	"gavel/commit"
	"gavel/ledger"
	"gavel/lock"
	"gavel/wire"
)

// P15.1: Base

// wantBase expects the base of conf.
func wantBase(t *testing.T, l *ledger.Ledger, want batch.Base) {
	t.Helper()
	want.Conf = conf
	if got := l.Base(conf); fmt.Sprint(got) != fmt.Sprint(want) {
		t.Errorf("the base is %+v, want %+v", got, want)
	}
}

// logged are the names of these entries; openAt are those of these that are named.

func logged(l ...api.Entry) map[api.Name]bool {
	m := map[api.Name]bool{}
	for _, e := range l {
		m[e.Name] = true
	}
	return m
}

func openAt(l []api.Entry, indexes ...int) map[int]api.Entry {
	m := map[int]api.Entry{}
	for _, i := range indexes {
		m[i] = l[i]
	}
	return m
}

func TestBase(t *testing.T) {
	l := ledger.New()
	wantBase(t, l, batch.Base{})
	apply(t, l, api.Batch{Time: 5}, 0)
	wantBase(t, l, batch.Base{Epoch: 1, Last: 5})
	l = log(t, 5)
	in := places(5)
	wantBase(t, l, batch.Base{Epoch: 1, Last: 10, Logged: logged(in...), Open: openAt(in, 0, 1, 2, 3, 4)})
	apply(t, l, opens(1, 20, opening(0, ""), opening(3, "d")), 0)
	wantBase(t, l, batch.Base{Epoch: 2, Last: 20, Logged: logged(in...), Open: openAt(in, 1, 2, 4)})
	in = append(in, entry(0, 50, 1, 22), entry(1, 50, 2, 23))
	x := closing(2, 30, in[5], in[6])
	x.Tombs = tombs(4, 1)
	apply(t, l, x, 2)
	wantBase(t, l, batch.Base{Epoch: 3, Last: 30, Logged: logged(in...), Open: openAt(in, 2, 5, 6)})
	for l.Done() {
	}
	wantBase(t, l, batch.Base{Epoch: 3, Last: 30, Logged: logged(in...), Open: openAt(in, 2, 5, 6)})
	apply(t, l, buries(3, end, 2, 5, 6), 0)
	wantBase(t, l, batch.Base{Epoch: 4, Last: end, Logged: logged(in...)})
}

// The configuration is the one that is handed in, whatever it is.
func TestBaseOfConfigurations(t *testing.T) {
	l := log(t, 3)
	for _, f := range append([]int{-1, 0, 1, 2, 21, 22}, far...) {
		for _, clients := range []int{math.MinInt, -1, 0, 1, 100, 101} {
			c := api.Conf{F: f, Clients: clients}
			if got := l.Base(c); got.Conf != c || got.Epoch != 1 || got.Last != 10 || len(got.Logged) != 3 || len(got.Open) != 3 {
				t.Errorf("of %v: %+v", c, got)
			}
		}
	}
}

// The maps are the caller's own: they can be written to, and nothing else hangs on them.
func TestBaseIsTheCallersOwn(t *testing.T) {
	for n := range 4 {
		l := log(t, n)
		before := told(l)
		one, other := l.Base(conf), l.Base(conf)
		clear(one.Logged)
		clear(one.Open)
		one.Logged[name(7, 7)] = true
		one.Logged[name(0, 1)] = false
		one.Open[99] = entry(7, 7, 7, 7)
		one.Open[0] = entry(8, 8, 8, 8)
		if got := told(l); got != before {
			t.Errorf("the base was written to, and then it tells\n%swant\n%s", got, before)
		}
		if len(other.Logged) != n || len(other.Open) != n {
			t.Errorf("the other base is %v", other)
		}
		// The names that it was emptied of are logged all the same.
		apply(t, l, closing(1, 20, entry(0, 1, 9, 15), entry(7, 7, 9, 15)), 2-min(n, 1))
	}
}

// A base stays as it was, whatever is done afterwards.
func TestBaseStaysAsItWas(t *testing.T) {
	l := log(t, 3)
	s := l.Base(conf)
	before := fmt.Sprint(s)
	apply(t, l, full(1, 40), 2)
	for l.Done() {
	}
	if got := fmt.Sprint(s); got != before {
		t.Errorf("the base is %s, was %s", got, before)
	}
}

// service is what a batch comes from: the certificates that three of four replicas hold, and what all sign.
type service struct {
	*book.Book
	tables []*lock.Table
}

func newService(t *testing.T) *service {
	t.Helper()
	v := &service{Book: book.New()}
	for i := range 3 {
		x, e := lock.New(conf, i)
		if e != api.OK {
			t.Fatal(e)
		}
		v.tables = append(v.tables, x)
	}
	return v
}

// submit has all three hold a certificate of a request with that payload and time.
func (v *service) submit(t *testing.T, client, seq int, payload string, time uint64) {
	t.Helper()
	x := api.Cert{Commit: commit.Make(v.Book, name(client, seq), hashOf(seq), []byte(payload))}
	for i := range 3 {
		s := api.Stamp{Replica: i, Name: x.Commit.Name, Hash: x.Commit.Hash, Time: time}
		s.Sig = v.Sign(i, wire.StampText(s))
		x.Stamps = append(x.Stamps, s)
	}
	for _, table := range v.tables {
		if _, e := table.Take(v.Book, 0, x); e != api.OK {
			t.Fatal(e)
		}
	}
}

func (v *service) tomb(i int) api.Tomb {
	x := api.Tomb{Index: i}
	for replica := range 3 {
		d := api.Deny{Replica: replica, Index: i}
		d.Sig = v.Sign(replica, wire.DenyText(d))
		x.Denies = append(x.Denies, d)
	}
	return x
}

// step makes a batch of the ledger's base, which must be valid for it, and applies it.
func (v *service) step(t *testing.T, l *ledger.Ledger, time uint64, puts int, openings []api.Opening, tombs ...api.Tomb) api.Batch {
	t.Helper()
	s := l.Base(conf)
	var promises []api.Promise
	for _, table := range v.tables {
		p, e := table.Promise(v.Book, s.Epoch, s.Last, time)
		if e != api.OK {
			t.Fatal(e)
		}
		promises = append(promises, p)
	}
	x, e := batch.Make(s, time, promises, openings, tombs)
	if e != api.OK || !batch.Valid(v.Book, s, x) {
		t.Fatalf("%s (%d) is not valid for %+v", brief(x), e, s)
	}
	apply(t, l, x, puts)
	return x
}

// With batches that are made of its bases, and are valid for them, and for them alone.
func TestBaseIsWhatBatchesAreMadeOf(t *testing.T) {
	v, l := newService(t), ledger.New()
	v.submit(t, 1, 1, "one", 7)
	v.submit(t, 0, 2, "two", 5)
	v.submit(t, 2, 3, "three", 9)
	v.submit(t, 2, 4, "late", 99)
	v.step(t, l, 10, 3, nil)
	wantStatus(t, l, "-", "-", "-")
	v.submit(t, 2, 5, "new", 15)
	two := api.Opening{Index: 0, Payload: []byte("two"), Nonce: hashOf(2)}
	wrong := api.Opening{Index: 1, Payload: []byte("two"), Nonce: hashOf(1)}
	x := v.step(t, l, 20, 1, open(two, wrong), v.tomb(2), v.tomb(0))
	wantStatus(t, l, "=two", "-", "x", "-")
	if batch.Valid(v.Book, l.Base(conf), x) {
		t.Error("a batch is valid again")
	}
	refuse(t, l, x)
	one := api.Opening{Index: 1, Payload: []byte("one"), Nonce: hashOf(1)}
	v.step(t, l, 100, 1, open(two, one), v.tomb(2), v.tomb(3))
	wantStatus(t, l, "=two", "=one", "x", "x", "-")
	if got := slices.Sorted(maps.Keys(l.Base(conf).Open)); !slices.Equal(got, []int{4}) {
		t.Errorf("%v are open", got)
	}
	for i := range 4 {
		wantNext(t, l, i)
		done(t, l, true)
	}
	wantNext(t, l, -1)
}
