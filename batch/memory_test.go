package batch_test

import (
	"slices"
	"testing"

	"gavel/api"
	"gavel/batch"
	"gavel/book"
)

// R4: what is handed in, and what is handed back.

// list is one list of a batch: what is in it, but for the lists within it.
type list struct {
	wipe func() // overwrites it, and what lies behind its length
	tell func() string
}

func listOf[T any](l []T, bare func(T) T) list {
	return list{
		wipe: func() { clear(l[:cap(l)]) },
		tell: func() string {
			var out []T
			for _, x := range l {
				out = append(out, bare(x))
			}
			return told(out)
		},
	}
}

func same[T any](x T) T { return x }

// allLists are all lists of these parts.
func allLists(promises []api.Promise, openings []api.Opening, tombs []api.Tomb) []list {
	all := []list{
		listOf(promises, func(p api.Promise) api.Promise { p.Certs = nil; return p }),
		listOf(openings, func(o api.Opening) api.Opening { o.Payload = nil; return o }),
		listOf(tombs, func(x api.Tomb) api.Tomb { x.Denies = nil; return x }),
	}
	for _, p := range promises {
		all = append(all, listOf(p.Certs, func(x api.Cert) api.Cert { x.Stamps = nil; return x }))
		for _, x := range p.Certs {
			all = append(all, listOf(x.Stamps, same))
		}
	}
	for _, o := range openings {
		all = append(all, listOf(o.Payload, same))
	}
	for _, x := range tombs {
		all = append(all, listOf(x.Denies, same))
	}
	return all
}

// parts are ones to make a batch of, with more than is taken, out of order, with room behind each list.
func parts(b *book.Book) (batch.Base, []api.Promise, []api.Opening, []api.Tomb) {
	s, x := good(b, 1)
	l := append(x.Promises, promiseOf(b, 3, certAt(b, 0, 9, 9, 150)), promiseOf(b, 0))
	openings := append(x.Openings, openingsAt(8, 7, 3)...)
	tombs := append(x.Tombs, tombsAt(b, 2, 3, 4)...)
	slices.Reverse(openings)
	slices.Reverse(tombs)
	return s, slices.Grow(l, 9), slices.Grow(openings, 9), slices.Grow(tombs, 9)
}

func TestMakeHandsOutNewMemory(t *testing.T) {
	b := book.New()
	s, l, openings, tombs := parts(b)
	x, _ := batch.Make(s, until, l, openings, tombs)
	before, handed := told(x), told(s, l, openings, tombs)
	if len(x.Promises) != 3 || len(x.Openings) != 2 || len(x.Tombs) != 3 {
		t.Fatalf("a batch with other lists than was thought: %s", brief(x))
	}
	for _, one := range allLists(x.Promises, x.Openings, x.Tombs) {
		one.wipe()
	}
	if told(s, l, openings, tombs) != handed {
		t.Error("what was handed in is changed by what is done to the answer")
	}
	y, _ := batch.Make(s, until, l, openings, tombs)
	if told(y) != before {
		t.Errorf("made once more: %s", brief(y))
	}
	for _, one := range allLists(l, openings, tombs) {
		one.wipe()
	}
	clear(s.Open)
	clear(s.Logged)
	if told(y) != before {
		t.Errorf("changed by what is done to what was handed in: %s", brief(y))
	}
}

// No two lists of one answer share memory, not behind their lengths either.
func TestMakeHandsOutListsThatShareNothing(t *testing.T) {
	b := book.New()
	s, l, _, tombs := parts(b)
	// What is handed in shares: one certificate, one payload, one list of denies in several parts.
	for i := range l {
		l[i].Certs = l[0].Certs[:1]
	}
	eight := openingAt(8)
	five := eight
	five.Index, s.Open[5] = 5, entryOf(nameAt(5), eight)
	openings := []api.Opening{openingAt(3), eight, five}
	for i := range tombs {
		tombs[i].Denies = tombs[0].Denies
	}
	x, _ := batch.Make(s, until, l, openings, tombs)
	count := len(allLists(x.Promises, x.Openings, x.Tombs))
	if count != 3+3+3+3+2 || len(x.Openings) != 3 || len(x.Tombs) != 2 {
		t.Fatalf("%d lists: %s", count, brief(x))
	}
	for i := range count {
		x, _ := batch.Make(s, until, l, openings, tombs)
		all := allLists(x.Promises, x.Openings, x.Tombs)
		var before []string
		for _, one := range all {
			before = append(before, one.tell())
		}
		all[i].wipe()
		for j, one := range all {
			if j != i && one.tell() != before[j] {
				t.Errorf("list %d is changed by what is done to list %d", j, i)
			}
		}
	}
}

// behind puts x right behind the length of l.
func behind[T any](l []T, x T) []T {
	return append(slices.Clip(slices.Clone(l)), x)[:len(l)]
}

// What lies behind a list's length would be of use, if it was read.
func TestNothingBehindAListIsReadOrWritten(t *testing.T) {
	b := book.New()
	s := baseOf(1, 2, 3, 4, 5)
	l := behind(promisesOf(b, 0, 1), promiseOf(b, 2))
	wantMade(t, "a promise behind", s, until, l, nil, nil, api.Batch{}, api.ErrQuorum)
	wantValid(t, "a promise behind", b, s, made(until, l, nil, nil), false)
	l = behind(promisesOf(b, 0, 1, 2), promiseOf(b, 3))
	openings, tombs := behind(openingsAt(2), openingAt(3)), behind(tombsAt(b, 4), tombOf(b, 5, 0, 1, 2))
	tombs[0].Denies = behind(tombs[0].Denies, denyBy(b, 3, api.Deny{Replica: 3, Index: 4}))
	openings[0].Payload = behind(openings[0].Payload, 'x')
	l[1].Certs = behind(l[1].Certs, certAt(b, 1, 1, 1, 150))
	x := made(until, l, openings, tombs)
	past := func() string {
		return told(l[:4], openings[:2], tombs[:2], tombs[0].Denies[:4], openings[0].Payload[:len(openings[0].Payload)+1], l[1].Certs[:1])
	}
	before := past()
	wantMade(t, "one behind each", s, until, l, openings, tombs, x, api.OK)
	wantValid(t, "one behind each", b, s, x, true)
	wantTomb(t, "one behind it", conf, b, tombs[0], true)
	wantEntries(t, "a certificate behind", last, nil, x)
	if past() != before {
		t.Error("what lies behind a list is changed")
	}
	tombs[0].Denies = behind(tombs[0].Denies[:2], tombs[0].Denies[2])
	wantTomb(t, "a deny behind", conf, b, tombs[0], false)
	cert := certAt(b, 1, 1, 1, 150)
	cert.Stamps = behind(cert.Stamps[:2], cert.Stamps[2])
	wantEntries(t, "a stamp behind", last, nil, closing(until, []api.Cert{cert}))
}

func TestEntriesHandsOutNewMemory(t *testing.T) {
	b := book.New()
	_, x := good(b, 1)
	want := batch.Entries(last, nil, x)
	if len(want) != 3 {
		t.Fatalf("%s", brief(want))
	}
	before := told(want)
	got := batch.Entries(last, nil, x)
	clear(got[:cap(got)])
	for _, one := range allLists(x.Promises, x.Openings, x.Tombs) {
		one.wipe()
	}
	if told(want) != before {
		t.Errorf("changed by what is done to another answer, or to what was handed in: %s", brief(want))
	}
}
