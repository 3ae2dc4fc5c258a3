package batch_test

import (
	"fmt"
	"math"
	"slices"
	"testing"

	"gavel/api"
	"gavel/batch"
	"gavel/book"
)

// P12.1

// closing is a batch up to that time whose promises have these certificates, one list each.
func closing(time uint64, lists ...[]api.Cert) api.Batch {
	x := api.Batch{Epoch: epoch, Time: time}
	for i, l := range lists {
		x.Promises = append(x.Promises, api.Promise{Replica: i, Epoch: epoch, Floor: time, Certs: l})
	}
	return x
}

// at is the entry of that name and salt with that time.
func at(client, seq, salt int, time uint64) api.Entry {
	return api.Entry{Name: name(client, seq), Hash: hashOf(salt), Time: time}
}

func TestEntriesOfNothing(t *testing.T) {
	for _, lastTime := range []uint64{0, 1, last, end} {
		for _, time := range []uint64{0, 1, until, end} {
			for _, logged := range []map[api.Name]bool{nil, {}, {name(1, 1): true}} {
				wantEntries(t, "no promises", lastTime, logged, closing(time))
				wantEntries(t, "no certificates", lastTime, logged, closing(time, nil, nil, []api.Cert{}))
				wantEntries(t, "a certificate without stamps", lastTime, logged, closing(time, []api.Cert{{}}))
			}
		}
	}
	if got := batch.Entries(0, nil, api.Batch{}); len(got) != 0 {
		t.Errorf("of the zero batch: %v", got)
	}
}

func TestEntriesBetweenTheTimes(t *testing.T) {
	b := book.New()
	times := []uint64{0, 1, 2, 99, 100, 101, 127, 128, 199, 200, 201, 1 << 32, 1<<63 - 1, 1 << 63, end - 2, end - 1, end}
	for _, median := range times[1 : len(times)-1] {
		l := []api.Cert{certAt(b, 1, 2, 3, median)}
		for _, lastTime := range times {
			for _, time := range times {
				what := fmt.Sprintf("%d, above %d, up to %d", median, lastTime, time)
				if lastTime < median && median <= time {
					wantEntries(t, what, lastTime, nil, closing(time, l), at(1, 2, 3, median))
				} else {
					wantEntries(t, what, lastTime, nil, closing(time, l))
				}
			}
		}
	}
}

// Also the end of time is a time here: whether it may be is asked by Valid.
func TestEntriesAtTheEndOfTime(t *testing.T) {
	x := api.Cert{Commit: api.Commit{Name: name(1, 1)}, Stamps: []api.Stamp{{Time: end}}}
	e := api.Entry{Name: name(1, 1), Time: end}
	wantEntries(t, "at it", end-1, nil, closing(end, []api.Cert{x}), e)
	wantEntries(t, "above it", end, nil, closing(end, []api.Cert{x}))
	wantEntries(t, "just below it", 0, nil, closing(end-1, []api.Cert{x}))
}

// The time is the median: not the first, the least or the greatest one.
func TestEntriesGoByTheMedian(t *testing.T) {
	b := book.New()
	orders([]uint64{110, 140, 190}, func(times []uint64) {
		l := []api.Cert{certWith(b, request(b, 1, 1, 1), times...)}
		wantEntries(t, "above and up to it", 139, nil, closing(140, l), at(1, 1, 1, 140))
		wantEntries(t, "above it", 140, nil, closing(200, l))
		wantEntries(t, "just below it", 100, nil, closing(139, l))
	})
	for n := range 12 {
		times := slices.Repeat([]uint64{150}, n)
		l := []api.Cert{certWith(b, request(b, 1, 1, 1), times...)}
		if n%2 == 1 {
			wantEntries(t, "an odd number of stamps", last, nil, closing(until, l), at(1, 1, 1, 150))
		} else {
			wantEntries(t, "an even number of stamps", last, nil, closing(until, l))
		}
	}
}

func TestEntriesLeaveOutWhatIsLogged(t *testing.T) {
	b := book.New()
	l := []api.Cert{certAt(b, 0, 1, 1, 110), certAt(b, 0, 2, 2, 120), certAt(b, 1, 1, 3, 130), certAt(b, 1, 2, 4, 140)}
	all := []api.Entry{at(0, 1, 1, 110), at(0, 2, 2, 120), at(1, 1, 3, 130), at(1, 2, 4, 140)}
	for which := range 1 << len(l) {
		logged, falsely, want := map[api.Name]bool{}, map[api.Name]bool{}, []api.Entry(nil)
		for i, e := range all {
			if which>>i&1 == 1 {
				logged[e.Name], falsely[e.Name] = true, true
			} else {
				falsely[e.Name] = false
				want = append(want, e)
			}
		}
		logged[name(7, 7)], logged[name(2, 1)], logged[name(0, 12)] = true, true, true
		wantEntries(t, "some are logged", last, logged, closing(until, l), want...)
		wantEntries(t, "in two promises", last, logged, closing(until, l[1:], l), want...)
		wantEntries(t, "the others are said not to be", last, falsely, closing(until, l), want...)
	}
	wantEntries(t, "none is logged", last, nil, closing(until, l), all...)
}

// A name that is logged stays out with each of its hashes and times.
func TestEntriesOfALoggedNameWithAnotherHash(t *testing.T) {
	b := book.New()
	l := []api.Cert{certAt(b, 1, 1, 1, 110), certAt(b, 1, 1, 2, 120), certAt(b, 1, 1, 3, 110)}
	wantEntries(t, "logged", last, map[api.Name]bool{name(1, 1): true}, closing(until, l))
	wantEntries(t, "not logged", last, map[api.Name]bool{name(1, 2): true}, closing(until, l), at(1, 1, 1, 110))
}

// wantOne expects that entry of these certificates, in every order, in one promise and in one each.
func wantOne(t *testing.T, what string, l []api.Cert, want ...api.Entry) {
	t.Helper()
	orders(l, func(l []api.Cert) {
		wantEntries(t, what, last, nil, closing(until, l), want...)
		each := make([][]api.Cert, len(l))
		for i, x := range l {
			each[i] = []api.Cert{x}
		}
		wantEntries(t, what+", one in each promise", last, nil, closing(until, each...), want...)
		wantEntries(t, what+", in two promises", last, nil, closing(until, l[:1], nil, l[1:]), want...)
		wantEntries(t, what+", all in two promises", last, nil, closing(until, l, l), want...)
	})
}

func TestEntriesOfOneNameSeveralTimes(t *testing.T) {
	b := book.New()
	c := func(salt int, median uint64) api.Cert { return certAt(b, 1, 1, salt, median) }
	wantOne(t, "the same twice", []api.Cert{c(1, 150), c(1, 150)}, at(1, 1, 1, 150))
	wantOne(t, "another time", []api.Cert{c(1, 150), c(1, 149), c(1, 151)}, at(1, 1, 1, 149))
	wantOne(t, "the first and the last time", []api.Cert{c(1, 200), c(1, 101)}, at(1, 1, 1, 101))
	wantOne(t, "one that is past", []api.Cert{c(1, 150), c(1, 100)}, at(1, 1, 1, 150))
	wantOne(t, "two that are past", []api.Cert{c(1, 99), c(2, 100), c(3, 101)}, at(1, 1, 3, 101))
	wantOne(t, "one that is too late", []api.Cert{c(1, 201), c(1, 200)}, at(1, 1, 1, 200))
	wantOne(t, "past and too late", []api.Cert{c(1, 100), c(2, 201)})
	wantOne(t, "another hash at another time", []api.Cert{c(1, 151), c(2, 150)}, at(1, 1, 2, 150))
	wantOne(t, "and the other way round", []api.Cert{c(1, 150), c(2, 151)}, at(1, 1, 1, 150))
	wantOne(t, "three of them", []api.Cert{c(2, 150), c(1, 151), c(3, 149)}, at(1, 1, 3, 149))
}

// Of one time it is the least hash: by its first byte that differs, as a number from 0 to 255.
func TestEntriesOfOneNameWithSeveralHashes(t *testing.T) {
	b := book.New()
	with := func(at int, value byte) api.Hash {
		h := hashOf(9)
		h[at] = value
		return h
	}
	cert := func(h api.Hash, median uint64) api.Cert {
		return certOf(b, 1, api.Commit{Name: name(1, 1), Hash: h}, median)
	}
	entry := func(h api.Hash) api.Entry { return api.Entry{Name: name(1, 1), Hash: h, Time: 150} }
	for i := range 32 {
		l := []api.Cert{cert(with(i, 0x7F), 150), cert(with(i, 0x80), 150), cert(with(i, 0xFF), 150)}
		wantOne(t, "a byte that differs", l, entry(with(i, 0x7F)))
		wantOne(t, "a byte above 127", l[1:], entry(with(i, 0x80)))
		wantOne(t, "the least hash is later", []api.Cert{cert(with(i, 0), 151), l[1]}, entry(with(i, 0x80)))
		wantOne(t, "the least hash is past", []api.Cert{cert(with(i, 0), 100), l[1]}, entry(with(i, 0x80)))
	}
	two := with(0, 1)
	two[31] = 255
	wantOne(t, "the first byte decides", []api.Cert{cert(two, 150), cert(with(0, 2), 150)}, entry(two))
	wantOne(t, "the hash of noughts", []api.Cert{cert(api.Hash{}, 150), cert(with(0, 0), 150)}, entry(api.Hash{}))
}

func TestEntriesInTheirOrder(t *testing.T) {
	b := book.New()
	// By time first, then by client, then by number: names of equal client, of equal number, of equal times.
	want := []api.Entry{at(2, 9, 1, 110), at(0, 1, 2, 150), at(0, 2, 3, 150), at(1, 1, 4, 150), at(2, 1, 5, 150), at(0, 3, 6, 160)}
	var l []api.Cert
	for i, e := range want {
		l = append(l, certAt(b, e.Name.Client, e.Name.Seq, i+1, e.Time))
	}
	orders(l, func(l []api.Cert) {
		wantEntries(t, "in one promise", last, nil, closing(until, l), want...)
		wantEntries(t, "in two promises", last, nil, closing(until, l[:2], l[1:]), want...)
	})
}

func TestEntriesOrderedAsNumbers(t *testing.T) {
	b := book.New()
	want := []api.Entry{
		at(9, 2, 1, 127), at(9, 10, 2, 127), at(10, 1, 3, 127), at(0, 1, 4, 128), at(0, 1<<16, 5, 128), at(0, 1<<20, 6, 128), at(1, 0, 7, 128),
		at(0, 300, 8, 1<<32), at(0, 299, 9, 1<<32+1), at(3, 7, 10, 1<<63-1), at(2, 7, 11, 1<<63), at(1, 7, 12, end-1),
	}
	var l []api.Cert
	for i, e := range want {
		l = append(l, certAt(b, e.Name.Client, e.Name.Seq, i+1, e.Time))
	}
	for range l {
		l = append(l[1:], l[0])
		wantEntries(t, "turned", 0, nil, closing(end, l), want...)
	}
	slices.Reverse(l)
	wantEntries(t, "the other way round", 0, nil, closing(end, l), want...)
}

// Who signed what, and of which epoch and floor a promise is, is asked by Valid.
func TestEntriesAskNothingElse(t *testing.T) {
	c := func(client int, time uint64) api.Cert {
		return api.Cert{Commit: api.Commit{Name: name(client, 1), Hash: hashOf(client)}, Stamps: []api.Stamp{{Replica: -1, Time: time}}}
	}
	x := api.Batch{Epoch: -1, Time: until, Promises: []api.Promise{
		{Replica: -7, Epoch: 9, Floor: 3, Certs: []api.Cert{c(2, 150), c(1, 150)}},
		{Replica: math.MaxInt, Epoch: math.MinInt, Floor: end, Certs: []api.Cert{c(0, 200)}},
	}}
	x.Openings, x.Tombs = openingsAt(1, 1), []api.Tomb{{Index: 1}}
	wantEntries(t, "not right", last, nil, x, at(1, 1, 1, 150), at(2, 1, 2, 150), at(0, 1, 0, 200))
}

// More promises and certificates than may be are taken as they are.
func TestEntriesOfMany(t *testing.T) {
	var lists [][]api.Cert
	var want []api.Entry
	for i := range 30 {
		var l []api.Cert
		for j := range 100 {
			n := i*100 + j
			x := api.Cert{Commit: api.Commit{Name: name(n%10, n), Hash: hashOf(n)}, Stamps: []api.Stamp{{Time: uint64(n + 1)}}}
			l = append(l, x)
			want = append(want, api.Entry{Name: x.Commit.Name, Hash: x.Commit.Hash, Time: uint64(n + 1)})
		}
		slices.Reverse(l)
		lists = append(lists, l)
	}
	slices.Reverse(lists)
	wantEntries(t, "3000", 0, nil, closing(3000, lists...), want...)
	wantEntries(t, "all but the first and the last", 1, nil, closing(2999, lists...), want[1:2999]...)
}
