package ledger_test

import (
	"fmt"
	"math"
	"slices"
	"strings"
	"testing"

	"gavel/api"
	"gavel/batch"
	"gavel/ledger"
)

// What the tests of all calls share: batches, and all that a ledger tells.

// end is the last time there is.
const end = math.MaxUint64

// conf is of four replicas.
var conf = api.Conf{F: 1, Clients: 3}

// far are numbers that are none of anything, wherever they are cut.
var far = []int{math.MinInt, math.MinInt + 1, -1 << 40, -1 << 32, 1<<32 - 1, 1 << 32, 1<<32 + 1, 1 << 40, math.MaxInt - 1, math.MaxInt}

// hashOf is a hash of its own for each number, the greater the number the greater the hash.
func hashOf(n int) api.Hash {
	return api.Hash{0: 7, 29: byte(n >> 16), 30: byte(n >> 8), 31: byte(n)}
}

func name(client, seq int) api.Name { return api.Name{Client: client, Seq: seq} }

// entry is the place of a name, of that hash and time.
func entry(client, seq, hash int, time uint64) api.Entry {
	return api.Entry{Name: name(client, seq), Hash: hashOf(hash), Time: time}
}

// cert is a certificate of an entry: the median of its three stamps is the time. Nobody has signed it.
func cert(e api.Entry) api.Cert {
	x := api.Cert{Commit: api.Commit{Name: e.Name, Hash: e.Hash, Len: 5}}
	for i, time := range []uint64{e.Time + min(1, end-e.Time), e.Time, e.Time - min(1, e.Time)} {
		x.Stamps = append(x.Stamps, api.Stamp{Replica: i, Name: e.Name, Hash: e.Hash, Time: time})
	}
	return x
}

// closing is a batch up to that time, with certificates of these entries.
func closing(epoch int, time uint64, l ...api.Entry) api.Batch {
	x := api.Batch{Epoch: epoch, Time: time}
	for i, e := range l {
		x.Promises = append(x.Promises, api.Promise{Replica: i % 3, Certs: []api.Cert{cert(e)}})
	}
	return x
}

// opening opens place i: the payload alone bears on a ledger.
func opening(i int, payload string) api.Opening {
	return api.Opening{Index: i, Payload: []byte(payload), Nonce: hashOf(i)}
}

// opens and buries are batches with these openings, or tombstones, alone.

func opens(epoch int, time uint64, l ...api.Opening) api.Batch {
	return api.Batch{Epoch: epoch, Time: time, Openings: l}
}

func buries(epoch int, time uint64, indexes ...int) api.Batch {
	return api.Batch{Epoch: epoch, Time: time, Tombs: tombs(indexes...)}
}

func tombs(indexes ...int) []api.Tomb {
	var l []api.Tomb
	for _, i := range indexes {
		l = append(l, api.Tomb{Index: i, Denies: []api.Deny{{Index: i}}})
	}
	return l
}

// teller is what a ledger tells; the plain one of these tests tells it, too.
type teller interface {
	Epoch() int
	Last() uint64
	Len() int
	Entry(i int) (api.Entry, bool)
	Index(n api.Name) (int, bool)
	Base(c api.Conf) batch.Base
	Status(i int) (int, []byte)
	Next() (int, bool)
}

// strange are names that stand in no log of these tests.
var strange = []api.Name{{}, {Client: -1, Seq: 1}, {Client: 1, Seq: -1}, {Client: math.MaxInt, Seq: math.MinInt}, {Client: 2, Seq: 1 << 32}}

// told is all that l tells, as a text.
func told(l teller) string {
	var s strings.Builder
	next, ok := l.Next()
	fmt.Fprintln(&s, l.Epoch(), l.Last(), l.Len(), next, ok)
	for i := -2; i < l.Len()+2; i++ {
		e, there := l.Entry(i)
		status, payload := l.Status(i)
		at, logged := l.Index(e.Name)
		fmt.Fprintln(&s, i, there, e.Name, e.Hash[29:], e.Time, status, len(payload), string(payload), at, logged)
	}
	for _, n := range strange {
		at, logged := l.Index(n)
		fmt.Fprintln(&s, n, at, logged)
	}
	fmt.Fprintln(&s, l.Base(conf))
	return s.String()
}

// want expects that one tells just what the other one does.
func want(t *testing.T, what string, got, of teller) {
	t.Helper()
	if a, b := told(got), told(of); a != b {
		t.Fatalf("%s: it tells\n%swant\n%s", what, a, b)
	}
}

// brief is the beginning of x told.
func brief(x any) string {
	s := fmt.Sprintf("%+v", x)
	return s[:min(len(s), 400)]
}

// apply expects that batch to be taken, and to put so many places behind the log.
func apply(t *testing.T, l *ledger.Ledger, x api.Batch, want int) {
	t.Helper()
	ahead := l.Len()
	if n, e := l.Apply(x); n != want || e != api.OK || l.Len() != ahead+want {
		t.Fatalf("%s: %d (%d), %d places, want %d behind %d", brief(x), n, e, l.Len(), want, ahead)
	}
}

// refuse expects that batch to be refused, and to change nothing.
func refuse(t *testing.T, l *ledger.Ledger, x api.Batch) {
	t.Helper()
	before := told(l)
	if n, e := l.Apply(x); n != 0 || e != api.ErrArg {
		t.Errorf("%s: %d (%d)", brief(x), n, e)
	}
	if got := told(l); got != before {
		t.Fatalf("%s is refused, and then it tells\n%sbefore\n%s", brief(x), got, before)
	}
}

// log is a ledger of n places, which one batch of the time 10 and the epoch 0 put there.
func log(t *testing.T, n int) *ledger.Ledger {
	t.Helper()
	l := ledger.New()
	apply(t, l, closing(0, 10, places(n)...), n)
	return l
}

// places are what stands in a log of n places.
func places(n int) []api.Entry {
	var l []api.Entry
	for i := range n {
		l = append(l, entry(i%3, i+1, 100+i, uint64(1+i)))
	}
	return l
}

// wantLog expects just these entries, in that order, and no others ahead of them or behind.
func wantLog(t *testing.T, l *ledger.Ledger, want ...api.Entry) {
	t.Helper()
	var got []api.Entry
	for i := range l.Len() {
		e, ok := l.Entry(i)
		if !ok {
			t.Errorf("there is no place %d of %d", i, l.Len())
		}
		if at, ok := l.Index(e.Name); at != i || !ok {
			t.Errorf("%v is at %d (%v), want %d", e.Name, at, ok, i)
		}
		got = append(got, e)
	}
	if !slices.Equal(got, want) {
		t.Errorf("the log is %v, want %v", got, want)
	}
	for _, i := range append([]int{-2, -1, l.Len(), l.Len() + 1}, far...) {
		if e, ok := l.Entry(i); ok || e != (api.Entry{}) {
			t.Errorf("at %d is %v", i, e)
		}
	}
}

// wantStatus expects what became of the places from 0 on, and nothing of others: "-" is open, "x" buried, all else is a payload behind "=".
func wantStatus(t *testing.T, l *ledger.Ledger, want ...string) {
	t.Helper()
	got := make([]string, l.Len())
	for i := range got {
		got[i] = became(t, l, i)
	}
	if !slices.Equal(got, want) {
		t.Errorf("what became of the places is %q, want %q", got, want)
	}
	for _, i := range append([]int{-2, -1, l.Len(), l.Len() + 1}, far...) {
		if status, payload := l.Status(i); status != 0 || len(payload) != 0 {
			t.Errorf("of %d became %d, %q", i, status, payload)
		}
	}
}

func became(t *testing.T, l *ledger.Ledger, i int) string {
	t.Helper()
	status, payload := l.Status(i)
	if status != ledger.Opened && len(payload) != 0 {
		t.Errorf("of %d became %d, with the payload %q", i, status, payload)
	}
	switch status {
	case ledger.Open:
		return "-"
	case ledger.Buried:
		return "x"
	case ledger.Opened:
		return "=" + string(payload)
	}
	return fmt.Sprint("status ", status)
}

// wantNext expects that place to be next; -1: none is.
func wantNext(t *testing.T, l *ledger.Ledger, want int) {
	t.Helper()
	if i, ok := l.Next(); ok != (want >= 0) || i != max(want, 0) {
		t.Errorf("next is %d (%v), want %d", i, ok, want)
	}
}

// done expects that the next place is done, or that there was none, which changes nothing.
func done(t *testing.T, l *ledger.Ledger, want bool) {
	t.Helper()
	before := told(l)
	if got := l.Done(); got != want {
		t.Errorf("done: %v, want %v", got, want)
	}
	if got := told(l); !want && got != before {
		t.Errorf("nothing was done, and then it tells\n%sbefore\n%s", got, before)
	}
}
