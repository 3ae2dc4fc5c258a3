package ledger_test

import (
	"bytes"
	"fmt"
	"testing"

	"gavel/api"
	"gavel/ledger"
)

// P15.2: Clone; R4: the memory that is handed in, and out

// deed is something done to a ledger, or to the plain one.
type deed func(l doer) string

type doer interface {
	teller
	Apply(x api.Batch) (int, api.Errno)
	Done() bool
}

// taking applies x as the next batch: its epoch and its times count from the ledger's own.
func taking(x api.Batch) deed {
	return func(l doer) string {
		y := x
		y.Epoch += l.Epoch()
		y.Time += l.Last()
		y.Promises = nil
		for _, p := range x.Promises {
			y.Promises = append(y.Promises, api.Promise{})
			for _, c := range p.Certs {
				e := api.Entry{Name: c.Commit.Name, Hash: c.Commit.Hash, Time: c.Stamps[1].Time + l.Last()}
				y.Promises[len(y.Promises)-1].Certs = append(y.Promises[len(y.Promises)-1].Certs, cert(e))
			}
		}
		return fmt.Sprint(l.Apply(y))
	}
}

func doing(l doer) string { return fmt.Sprint(l.Done()) }

// deeds are one of each kind that bears on a few places.
func deeds() []deed {
	mixed := closing(0, 5, entry(2, 1, 9, 1), entry(0, 1, 9, 2), entry(0, 2, 9, 2))
	mixed.Openings, mixed.Tombs = open(opening(0, "m"), opening(2, "n"), opening(3, "o")), tombs(2, 1)
	return []deed{
		doing,
		taking(closing(0, 5)),
		taking(closing(0, 5, entry(0, 1, 1, 1))),
		taking(closing(0, 5, entry(0, 1, 1, 3), entry(0, 1, 2, 2), entry(1, 1, 3, 3), entry(1, 2, 3, 6), entry(1, 3, 3, 0))),
		taking(opens(0, 5, opening(0, "a"))),
		taking(opens(0, 5, opening(1, ""), opening(1, "b"), opening(-1, "c"))),
		taking(buries(0, 5, 0)),
		taking(buries(0, 5, 1, 1, 7)),
		taking(mixed),
		taking(full(1, 5)),
		taking(full(0, 0)),
	}
}

// run does all these to both, which must answer and tell alike all the way.
func run(t *testing.T, l, of doer, all ...deed) {
	t.Helper()
	for _, d := range all {
		if got, want := d(l), d(of); got != want {
			t.Fatalf("answer %s, want %s", got, want)
		}
		want(t, "behind a deed", l, of)
	}
}

// pasts are lives of a ledger, one for each kind of thing that it holds.
func pasts() [][]deed {
	put := taking(closing(0, 5, entry(0, 1, 1, 1), entry(1, 1, 2, 2), entry(2, 1, 3, 3)))
	ends := taking(api.Batch{Time: 5, Openings: open(opening(0, "past")), Tombs: tombs(1)})
	return [][]deed{nil, {taking(closing(0, 5))}, {put}, {put, ends}, {put, ends, doing}, {put, ends, doing, doing, doing}, {put, ends, put, taking(buries(0, 5, 2)), doing}}
}

func TestCloneIsAsItIs(t *testing.T) {
	for _, past := range pasts() {
		for _, d := range deeds() {
			for _, then := range deeds() {
				l, same := ledger.New(), &plain{}
				run(t, l, same, past...)
				c := l.Clone()
				if c == l || c == nil {
					t.Fatal("the same object, or none")
				}
				want(t, "a clone", c, same)
				run(t, c, same, d, then)
			}
		}
	}
}

// What is done to either is not done to the other one.
func TestCloneGoesItsOwnWay(t *testing.T) {
	for _, past := range pasts() {
		for _, d := range deeds() {
			for _, then := range deeds() {
				for turned := range 2 {
					l, same := ledger.New(), &plain{}
					run(t, l, same, past...)
					c := l.Clone()
					if turned == 1 {
						l, c = c, l
					}
					other := same.Clone()
					run(t, c, other, d, then)
					want(t, "the other one", l, same)
					run(t, l, same, then, d)
					want(t, "the first one", c, other)
				}
			}
		}
	}
}

// A clone of a clone, each with a place of its own in the room behind the same log.
func TestClonesPutTheirOwn(t *testing.T) {
	for n := range 9 {
		l := log(t, n)
		all := []*ledger.Ledger{l, l.Clone(), l.Clone()}
		all = append(all, all[1].Clone())
		for i, x := range all {
			apply(t, x, closing(1, 20, entry(9, i, i, 15)), 1)
		}
		for i, x := range all {
			wantLog(t, x, append(places(n), entry(9, i, i, 15))...)
		}
	}
}

// What is handed in is not touched, and not held on to.
func TestBatchIsNotTouched(t *testing.T) {
	x := full(1, 40)
	x.Openings[0].Payload = []byte("abcdef")[:3]
	whole := x.Openings[0].Payload[:6]
	x.Openings = append(x.Openings, opening(2, "c"), opening(-1, "z"))[:2]
	x.Tombs = append(x.Tombs, api.Tomb{Index: 7})[:1]
	behind := fmt.Sprint(x.Openings[:3], x.Tombs[:2])
	before := fmt.Sprintf("%+v", x)
	l := log(t, 3)
	apply(t, l, x, 2)
	if got := fmt.Sprintf("%+v", x); got != before || string(whole) != "abcdef" || fmt.Sprint(x.Openings[:3], x.Tombs[:2]) != behind {
		t.Errorf("the batch is %s (%q), was %s", got, whole, before)
	}
	want := told(l)
	copy(whole, "zzzzzz")
	clear(x.Openings[1].Payload)
	for _, p := range x.Promises {
		clear(p.Certs[0].Stamps)
		clear(p.Certs)
	}
	clear(x.Promises)
	clear(x.Openings)
	clear(x.Tombs[0].Denies)
	clear(x.Tombs)
	if got := told(l); got != want {
		t.Errorf("the batch was written to, and then it tells\n%swant\n%s", got, want)
	}
	wantStatus(t, l, "=abc", "x", "=c", "-", "-")
}

// A payload that is handed out is the caller's own.
func TestPayloadIsTheCallersOwn(t *testing.T) {
	l := ended(t, open(opening(0, "abc"), opening(1, "abc")), nil)
	c := l.Clone()
	_, one := l.Status(0)
	_, other := l.Status(0)
	copy(one, "zzz")
	one = append(one[:2], "yyyyyyyyyyyy"...)
	if !bytes.Equal(other, []byte("abc")) {
		t.Errorf("the other payload is %q", other)
	}
	_, one = c.Status(1)
	clear(one[:cap(one)])
	wantStatus(t, l, "=abc", "=abc", "-", "-", "-")
	wantStatus(t, c, "=abc", "=abc", "-", "-", "-")
}
