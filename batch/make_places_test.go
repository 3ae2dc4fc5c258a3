package batch_test

import (
	"bytes"
	"fmt"
	"math"
	"slices"
	"testing"

	"gavel/api"
	"gavel/batch"
	"gavel/book"
)

// P12.4: the openings, the tombstones

// wantPlaces expects a batch with these openings and tombstones of those that are handed in.
func wantPlaces(t *testing.T, what string, b *book.Book, s batch.Base, openings []api.Opening, tombs []api.Tomb, wantOpenings []api.Opening, wantTombs []api.Tomb) {
	t.Helper()
	l := promisesOf(b, 0, 1, 2)
	wantMade(t, what, s, until, l, openings, tombs, made(until, l, wantOpenings, wantTombs), api.OK)
}

// unlike are openings of these indexes that do not match there.
func unlike(indexes ...int) []api.Opening {
	l := openingsAt(indexes...)
	for i := range l {
		l[i].Payload[0]++
	}
	return l
}

// otherTombs are tombstones of these indexes, with other denies.
func otherTombs(b *book.Book, indexes ...int) []api.Tomb {
	var l []api.Tomb
	for _, i := range indexes {
		l = append(l, tombOf(b, i, 1, 2, 3))
	}
	return l
}

// Each list of up to four openings: of open places, of one that is not, and ones that do not match; beside a tombstone of each place.
func TestMakeOfEachListOfOpenings(t *testing.T) {
	b := book.New()
	s := baseOf(1, 0, 3, 4)
	pool := slices.Concat(openingsAt(0, 3, 4, 5), unlike(3, 4))
	lists(pool, 4, func(l []api.Opening) {
		var opened, buried []int
		for _, i := range []int{0, 3, 4} {
			if slices.ContainsFunc(l, func(o api.Opening) bool { return o.Index == i && o.Payload[0] == 'p' }) {
				opened = append(opened, i)
			} else {
				buried = append(buried, i)
			}
		}
		wantPlaces(t, "a list", b, s, l, tombsAt(b, 5, 4, 3, 2, 0), openingsAt(opened...), tombsAt(b, buried...))
	})
}

// Each list of up to four tombstones: of open places, of one that is not, of one that is opened, and a second one of a place.
func TestMakeOfEachListOfTombs(t *testing.T) {
	b := book.New()
	s := baseOf(1, 0, 3, 4, 7)
	pool := slices.Concat(tombsAt(b, 0, 3, 4, 5), otherTombs(b, 3, 7))
	lists(pool, 4, func(l []api.Tomb) {
		var want []api.Tomb
		for _, i := range []int{0, 3, 7} {
			if at := slices.IndexFunc(l, func(x api.Tomb) bool { return x.Index == i }); at >= 0 {
				want = append(want, l[at])
			}
		}
		wantPlaces(t, "a list", b, s, openingsAt(4), l, openingsAt(4), want)
	})
}

func TestMakeOfPlacesInEveryOrder(t *testing.T) {
	b := book.New()
	s := baseOf(1, 0, 1, 2, 3, 127, 128, 1<<32, 1<<32+1, math.MaxInt)
	want, buried := []int{0, 2, 127, 1 << 32, math.MaxInt}, []int{1, 3, 128, 1<<32 + 1}
	orders(slices.Clone(want), func(l []int) {
		wantPlaces(t, "openings", b, s, openingsAt(l...), tombsAt(b, buried...), openingsAt(want...), tombsAt(b, buried...))
	})
	orders(slices.Clone(buried), func(l []int) {
		wantPlaces(t, "tombstones", b, s, openingsAt(want...), tombsAt(b, l...), openingsAt(want...), tombsAt(b, buried...))
	})
}

// Indexes are unlike also where their last 32 bits are the same.
func TestMakeOfGreatIndexes(t *testing.T) {
	b := book.New()
	for _, two := range [][]int{{0, 1 << 32}, {3, 3 + 1<<32}, {5, 5 + 1<<62}} {
		s := baseOf(1, two...)
		wantPlaces(t, "opened", b, s, openingsAt(two[1], two[0]), nil, openingsAt(two...), nil)
		wantPlaces(t, "buried", b, s, nil, tombsAt(b, two[1], two[0]), nil, tombsAt(b, two...))
		wantPlaces(t, "one of each", b, s, openingsAt(two[1]), tombsAt(b, two[1], two[0]), openingsAt(two[1]), tombsAt(b, two[0]))
	}
}

// Of each index it is the first one that matches: one that does not takes no place, wherever it stands.
func TestMakeOfSeveralOpeningsOfAnIndex(t *testing.T) {
	b := book.New()
	s := baseOf(1, 3, 4)
	good, bad := openingAt(3), unlike(3)[0]
	wantPlaces(t, "behind one that does not match", b, s, []api.Opening{bad, good}, nil, openingsAt(3), nil)
	wantPlaces(t, "ahead of it", b, s, []api.Opening{good, bad}, nil, openingsAt(3), nil)
	wantPlaces(t, "among them", b, s, []api.Opening{bad, bad, good, bad, good}, nil, openingsAt(3), nil)
	wantPlaces(t, "beside others", b, s, []api.Opening{openingAt(4), bad, good, openingAt(4)}, nil, openingsAt(3, 4), nil)
	wantPlaces(t, "none that matches", b, s, []api.Opening{bad, bad}, nil, nil, nil)
}

// An opening is of the place that it names: a place with the same commitment is another one.
func TestMakeOfPlacesAlike(t *testing.T) {
	b := book.New()
	s := baseOf(1)
	for i := range 5 {
		s.Open[i] = entryOf(name(1, 1), openingAt(9))
	}
	var l []api.Opening
	for _, i := range []int{3, 1, 7, -1} {
		o := openingAt(9)
		o.Index = i
		l = append(l, o)
	}
	wantPlaces(t, "the same commitment at five places", b, s, l, tombsAt(b, 3, 2, 1, 0), []api.Opening{l[1], l[0]}, tombsAt(b, 0, 2))
}

func TestMakeOfOpeningsThatDoNotMatch(t *testing.T) {
	b := book.New()
	s := baseOf(1, 3, 4)
	spoil := func(what string, match bool, do func(*api.Opening)) {
		o := openingAt(3)
		do(&o)
		if match {
			wantPlaces(t, what, b, s, []api.Opening{o}, tombsAt(b, 3), []api.Opening{o}, nil)
		} else {
			wantPlaces(t, what, b, s, []api.Opening{o}, tombsAt(b, 3), nil, tombsAt(b, 3))
		}
	}
	spoil("as it is", true, func(*api.Opening) {})
	spoil("another payload", false, func(o *api.Opening) { o.Payload[0]++ })
	spoil("a byte less", false, func(o *api.Opening) { o.Payload = o.Payload[1:] })
	spoil("a byte more", false, func(o *api.Opening) { o.Payload = append(o.Payload, 0) })
	spoil("no payload", false, func(o *api.Opening) { o.Payload = nil })
	spoil("another nonce", false, func(o *api.Opening) { o.Nonce[0]++ })
	spoil("another place", false, func(o *api.Opening) { o.Index = 4 })
	spoil("another place's", false, func(o *api.Opening) { *o = openingAt(4); o.Index = 3 })
	spoil("a place that is not open", false, func(o *api.Opening) { *o = openingAt(5) })
	e := s.Open[3]
	for _, name := range []api.Name{name(e.Name.Client+1, e.Name.Seq), name(e.Name.Client, e.Name.Seq+1), {}} {
		s.Open[3] = api.Entry{Name: name, Hash: e.Hash, Time: e.Time}
		spoil("another name", false, func(*api.Opening) {})
	}
	s.Open[3] = api.Entry{Name: e.Name, Hash: e.Hash, Time: end}
	spoil("another time", true, func(*api.Opening) {})
}

// Making asks for the match alone: how long a payload may be is asked by Valid.
func TestMakeOfPayloads(t *testing.T) {
	b := book.New()
	for _, size := range []int{0, 1, 255, 256, 257, 1 << 16} {
		o := api.Opening{Index: 3, Payload: bytes.Repeat([]byte{7}, size), Nonce: hashOf(2)}
		s := baseOf(1, 4)
		s.Open[3] = entryOf(name(1, 1), o)
		wantPlaces(t, fmt.Sprint(size, " bytes"), b, s, []api.Opening{o}, tombsAt(b, 3, 4), []api.Opening{o}, tombsAt(b, 4))
	}
}

func TestMakeOfManyPlaces(t *testing.T) {
	b := book.New()
	s := baseOf(1, from(0, 400)...)
	for _, n := range []int{0, 1, 63, 64, 65, 66, 128, 150} {
		for _, m := range []int{0, 1, 63, 64, 65, 66, 128, 150} {
			openings, tombs := openingsAt(from(200, n)...), tombsAt(b, from(0, m)...)
			wantOpenings, wantTombs := openings[:min(n, 64)], tombs[:min(m, 64)]
			what := fmt.Sprintf("%d openings, %d tombstones", n, m)
			wantPlaces(t, what, b, s, openings, tombs, wantOpenings, wantTombs)
			down, tombsDown := slices.Clone(openings), slices.Clone(tombs)
			slices.Reverse(down)
			slices.Reverse(tombsDown)
			wantPlaces(t, what+", falling", b, s, down, tombsDown, wantOpenings, wantTombs)
			wantPlaces(t, what+", twice", b, s, slices.Concat(down, openings), slices.Concat(tombs, tombsDown), wantOpenings, wantTombs)
		}
	}
}

// What does not match, is not open, or stands twice counts for none of the 64.
func TestMakeCountsWhatItTakesAlone(t *testing.T) {
	b := book.New()
	s := baseOf(1, from(0, 400)...)
	for _, n := range []int{63, 64, 65} {
		openings := slices.Concat(unlike(from(100, 70)...), openingsAt(from(500, 70)...), openingsAt(from(200, n)...), openingsAt(from(200, n)...))
		tombs := slices.Concat(tombsAt(b, from(500, 70)...), tombsAt(b, from(0, 3)...), tombsAt(b, from(0, n)...), tombsAt(b, from(200, 70)...))
		buried := tombsAt(b, slices.Concat(from(0, n), from(200+n, 70-n))...)
		wantPlaces(t, fmt.Sprint(n), b, s, openings, tombs, openingsAt(from(200, min(n, 64))...), buried[:64])
	}
}

// An opening that matches keeps the tombstone of its index out, also where it is not taken itself, being past the 64.
func TestMakeBuriesNothingThatIsOpened(t *testing.T) {
	b := book.New()
	s := baseOf(1, from(0, 100)...)
	openings := openingsAt(from(0, 70)...)
	for _, n := range []int{63, 64, 65, 70} {
		wantPlaces(t, fmt.Sprint(n, " openings"), b, s, openings[:n], tombsAt(b, from(0, 100)...), openings[:min(n, 64)], tombsAt(b, from(n, min(100-n, 64))...))
		down := slices.Clone(openings[:n])
		slices.Reverse(down)
		wantPlaces(t, fmt.Sprint(n, " openings, falling"), b, s, down, tombsAt(b, from(60, 10)...), openings[:min(n, 64)], tombsAt(b, from(n, 70-n)...))
	}
	wantPlaces(t, "openings that do not match", b, s, unlike(from(0, 70)...), tombsAt(b, from(60, 10)...), nil, tombsAt(b, from(60, 10)...))
	wantPlaces(t, "one that does, among those that do not", b, s, slices.Concat(unlike(61, 62), openingsAt(62), unlike(62, 63)), tombsAt(b, from(60, 5)...), openingsAt(62), tombsAt(b, 60, 61, 63, 64))
}

// An opening of a place that is not open keeps no tombstone out, nor does one of another place.
func TestMakeOfTombsWhereNothingIsOpen(t *testing.T) {
	b := book.New()
	for _, open := range []map[int]api.Entry{nil, {}} {
		s := baseOf(1)
		s.Open = open
		wantPlaces(t, "nothing is open", b, s, append(openingsAt(3, 0), api.Opening{}), append(tombsAt(b, 3, 0), api.Tomb{}), nil, nil)
	}
	s := baseOf(1, 3)
	wantPlaces(t, "one is open", b, s, openingsAt(2, 4), tombsAt(b, 2, 3, 4), nil, tombsAt(b, 3))
	s.Open[4] = api.Entry{}
	wantPlaces(t, "one is open, with the zero entry", b, s, []api.Opening{{Index: 4}, {Index: 5}}, tombsAt(b, 4, 5), nil, tombsAt(b, 4))
}

// Of each index it is the first tombstone, whatever its denies are.
func TestMakeOfSeveralTombsOfAnIndex(t *testing.T) {
	b := book.New()
	s := baseOf(1, 2, 3)
	three := []api.Tomb{tombOf(b, 3, 0, 1, 2), {Index: 3}, tombOf(b, 3, 1, 2, 3)}
	orders(three, func(l []api.Tomb) {
		wantPlaces(t, "three of one", b, s, nil, l, nil, l[:1])
		wantPlaces(t, "and one behind them", b, s, nil, append(l, tombOf(b, 2, 0)), nil, []api.Tomb{tombOf(b, 2, 0), l[0]})
	})
}
