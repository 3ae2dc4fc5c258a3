package ledger_test

import (
	"fmt"
	"slices"
	"testing"

	"gavel/api"
	"gavel/ledger"
)

// P15.1: Apply: which batches it takes, and what it puts behind the log

// full is a batch with something of everything, for a log of three open places.
func full(epoch int, time uint64) api.Batch {
	x := closing(epoch, time, entry(0, 50, 1, 20), entry(1, 50, 2, 30))
	x.Openings = []api.Opening{opening(0, "a")}
	x.Tombs = tombs(1)
	return x
}

func TestApplyOfEachEpoch(t *testing.T) {
	l := ledger.New()
	for epoch := range 5 {
		for _, other := range append([]int{epoch - 2, epoch - 1, epoch + 1, epoch + 2, -epoch - 1, epoch + 1<<8, epoch + 1<<32}, far...) {
			refuse(t, l, full(other, 1000))
			refuse(t, l, api.Batch{Epoch: other, Time: end})
		}
		if got := l.Epoch(); got != epoch {
			t.Fatalf("the epoch is %d, want %d", got, epoch)
		}
		apply(t, l, closing(epoch, uint64(10+epoch)), 0)
	}
}

func TestApplyOfEachTime(t *testing.T) {
	refuse(t, ledger.New(), api.Batch{})
	refuse(t, ledger.New(), closing(0, 0, entry(0, 1, 1, 0), entry(1, 1, 1, 1)))
	times := []uint64{1, 2, 99, 100, 101, 127, 128, 1 << 31, 1 << 32, 1<<53 + 1, 1<<63 - 1, 1 << 63, end - 1, end}
	for _, last := range times {
		l := ledger.New()
		apply(t, l, closing(0, last, entry(2, 1, 1, 1)), 1)
		if got := l.Last(); got != last {
			t.Errorf("the last time is %d, want %d", got, last)
		}
		for _, time := range append([]uint64{0, last - 1, last, last + 1}, times...) {
			if time <= last {
				refuse(t, l, full(1, time))
				continue
			}
			c := l.Clone()
			apply(t, c, opens(1, time, opening(0, "a")), 0)
			if c.Last() != time || c.Epoch() != 2 {
				t.Errorf("the last time is %d, want %d; the epoch %d", c.Last(), time, c.Epoch())
			}
		}
	}
}

// Behind the last time there is, no batch is taken any more.
func TestApplyAtTheEndOfTime(t *testing.T) {
	l := log(t, 3)
	apply(t, l, closing(1, end, entry(0, 50, 1, 20), entry(1, 50, 2, end), entry(2, 50, 2, end-1)), 3)
	wantLog(t, l, append(places(3), entry(0, 50, 1, 20), entry(2, 50, 2, end-1), entry(1, 50, 2, end))...)
	for _, time := range []uint64{0, 1, end - 1, end} {
		refuse(t, l, full(2, time))
	}
}

// Of a batch that is refused nothing is taken: it is still as if it had not been.
func TestRefusedChangesNothing(t *testing.T) {
	l := log(t, 3)
	for _, x := range []api.Batch{full(0, 40), full(2, 40), full(1, 10), full(1, 9), full(1, 0), full(-1, 40)} {
		refuse(t, l, x)
	}
	wantLog(t, l, places(3)...)
	wantStatus(t, l, "-", "-", "-")
	apply(t, l, full(1, 40), 2)
	wantLog(t, l, append(places(3), entry(0, 50, 1, 20), entry(1, 50, 2, 30))...)
	wantStatus(t, l, "=a", "x", "-", "-", "-")
}

func TestApplyOfNothing(t *testing.T) {
	for n := range 3 {
		l := log(t, n)
		for i := range 4 {
			apply(t, l, api.Batch{Epoch: 1 + i, Time: uint64(11 + i*i)}, 0)
			if l.Epoch() != 2+i || l.Last() != uint64(11+i*i) {
				t.Errorf("the epoch is %d, the last time %d", l.Epoch(), l.Last())
			}
			wantLog(t, l, places(n)...)
		}
		apply(t, l, api.Batch{Epoch: 5, Time: 100, Promises: make([]api.Promise, 3), Openings: []api.Opening{}, Tombs: []api.Tomb{}}, 0)
		apply(t, l, api.Batch{Epoch: 6, Time: 101, Promises: []api.Promise{{Certs: make([]api.Cert, 3)}}}, 0)
		wantLog(t, l, places(n)...)
		wantStatus(t, l, slices.Repeat([]string{"-"}, n)...)
	}
}

// Entries go behind the log by time, then client, then number, whatever the order of the certificates.
func TestApplyPutsInOrder(t *testing.T) {
	want := []api.Entry{entry(2, 9, 4, 11), entry(0, 8, 1, 12), entry(0, 9, 1, 12), entry(1, 7, 9, 12), entry(1, 9, 3, 12), entry(0, 7, 2, 13)}
	for turn := range want {
		in := slices.Concat(want[turn:], want[:turn])
		for range 2 {
			l := log(t, 2)
			apply(t, l, closing(1, 20, in...), len(want))
			wantLog(t, l, append(places(2), want...)...)
			wantStatus(t, l, slices.Repeat([]string{"-"}, 2+len(want))...)
			slices.Reverse(in)
		}
	}
}

// Only times above the last one, and up to the batch's own.
func TestApplyPutsBetweenTheTimes(t *testing.T) {
	times := []uint64{0, 1, 2, 9, 10, 11, 19, 20, 21, 127, 128, 1 << 32, 1 << 63, end - 1, end}
	for _, last := range times[1:] {
		for _, time := range times {
			for _, at := range times {
				if time <= last {
					continue
				}
				l := ledger.New()
				apply(t, l, closing(0, last), 0)
				e := entry(1, 1, 1, at)
				if at > last && at <= time {
					apply(t, l, closing(1, time, e), 1)
					wantLog(t, l, e)
				} else {
					apply(t, l, closing(1, time, e), 0)
					wantLog(t, l)
				}
			}
		}
	}
}

// A name stands in the log once, where it came first, whatever its later hash and time, and whatever has become of it.
func TestApplyOfLoggedNames(t *testing.T) {
	l, in := log(t, 4), places(4)
	apply(t, l, opens(1, 20, opening(0, "a")), 0)
	apply(t, l, buries(2, 30, 1), 0)
	done(t, l, true)
	for _, e := range in {
		for _, hash := range []api.Hash{e.Hash, hashOf(1), hashOf(999)} {
			again := api.Entry{Name: e.Name, Hash: hash, Time: l.Last() + 1}
			apply(t, l, closing(l.Epoch(), again.Time, again), 0)
			again.Time += 5
			apply(t, l, closing(l.Epoch(), again.Time+5, again, e), 0)
		}
	}
	wantLog(t, l, in...)
	wantStatus(t, l, "=a", "x", "-", "-")
	// Beside names that are not logged yet.
	last := l.Last()
	more := []api.Entry{entry(0, 60, 1, last+1), {Name: in[2].Name, Hash: hashOf(1), Time: last + 2}, entry(1, 60, 2, last+2), {Name: in[0].Name, Hash: hashOf(2), Time: last + 3}, entry(2, 60, 3, last+4)}
	apply(t, l, closing(l.Epoch(), last+4, more...), 3)
	wantLog(t, l, append(places(4), more[0], more[2], more[4])...)
	wantStatus(t, l, "=a", "x", "-", "-", "-", "-", "-")
}

// Of several certificates of one name, the one of the least time stands for it; of that time, the one of the least hash.
func TestApplyOfOneNameTwice(t *testing.T) {
	for _, x := range []struct{ a, b, want api.Entry }{
		{entry(1, 1, 5, 12), entry(1, 1, 5, 13), entry(1, 1, 5, 12)},
		{entry(1, 1, 5, 12), entry(1, 1, 4, 13), entry(1, 1, 5, 12)},
		{entry(1, 1, 5, 12), entry(1, 1, 4, 12), entry(1, 1, 4, 12)},
		{entry(1, 1, 5, 12), entry(1, 1, 5, 12), entry(1, 1, 5, 12)},
		{entry(1, 1, 5, 10), entry(1, 1, 6, 12), entry(1, 1, 6, 12)},
		{entry(1, 1, 5, 12), entry(1, 1, 4, 21), entry(1, 1, 5, 12)},
	} {
		for _, in := range [][]api.Entry{{x.a, x.b}, {x.b, x.a}, {x.a, x.b, x.a}} {
			l := log(t, 0)
			apply(t, l, closing(1, 20, in...), 1)
			wantLog(t, l, x.want)
			one := log(t, 0)
			b := api.Batch{Epoch: 1, Time: 20, Promises: []api.Promise{{}}}
			for _, e := range in {
				b.Promises[0].Certs = append(b.Promises[0].Certs, cert(e))
			}
			apply(t, one, b, 1)
			want(t, "all certificates in one promise", one, l)
		}
	}
}

// Each batch puts its places behind those of all before, though the times of later ones are what orders them within one alone.
func TestApplyAgainAndAgain(t *testing.T) {
	l := ledger.New()
	var all []api.Entry
	for epoch := range 40 {
		var in []api.Entry
		last := l.Last()
		for k := range epoch % 5 {
			in = append(in, entry(k%3, 1+epoch*5+k, epoch, last+1+uint64(k)))
		}
		all = append(all, in...)
		slices.Reverse(in)
		apply(t, l, closing(epoch, last+5, in...), len(in))
		wantLog(t, l, all...)
		if l.Epoch() != epoch+1 || l.Last() != uint64(epoch+1)*5 {
			t.Fatalf("the epoch is %d, the last time %d", l.Epoch(), l.Last())
		}
	}
}

// Who promised, what was promised, and who signed is not asked; nor are the limits of a batch, or of a ledger's epochs.
func TestApplyAsksForNoMore(t *testing.T) {
	l := ledger.New()
	var in []api.Entry
	for i := range 300 {
		in = append(in, entry(i%100, i, i, 5))
	}
	apply(t, l, closing(0, 5, in...), 300)
	x := api.Batch{Epoch: 1, Time: 6}
	var ends []string
	for i := range 150 {
		x.Openings = append(x.Openings, opening(299-i, fmt.Sprint(i)))
		x.Tombs = append(x.Tombs, api.Tomb{Index: 149 - i})
	}
	x.Openings[9].Payload = make([]byte, 300)
	apply(t, l, x, 0)
	for i := range 300 {
		switch {
		case i < 150:
			ends = append(ends, "x")
		case i == 290:
			ends = append(ends, "="+string(make([]byte, 300)))
		default:
			ends = append(ends, fmt.Sprint("=", 299-i))
		}
	}
	wantStatus(t, l, ends...)
	for epoch := 2; epoch <= api.MaxEpoch+2; epoch++ {
		if n, e := l.Apply(api.Batch{Epoch: epoch, Time: uint64(epoch + 5)}); n != 0 || e != api.OK {
			t.Fatalf("epoch %d: %d (%d)", epoch, n, e)
		}
	}
	if l.Epoch() != api.MaxEpoch+3 || l.Len() != 300 {
		t.Errorf("the epoch is %d, of %d places", l.Epoch(), l.Len())
	}
}
