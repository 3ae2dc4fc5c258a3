package batch_test

import (
	"bytes"
	"fmt"
	"math"
	"slices"
	"testing"

	"gavel/api"
	"gavel/batch"
	"gavel/book"
)

// P12.3: the openings, the tombstones

// closed is a batch with right promises and these openings and tombstones.
func closed(b *book.Book, openings []api.Opening, tombs []api.Tomb) api.Batch {
	return api.Batch{Epoch: epoch, Time: until, Promises: promisesOf(b, 0, 1, 2), Openings: openings, Tombs: tombs}
}

func openedAt(l []api.Opening) []int {
	var out []int
	for _, o := range l {
		out = append(out, o.Index)
	}
	return out
}

func buriedAt(l []api.Tomb) []int {
	var out []int
	for _, x := range l {
		out = append(out, x.Index)
	}
	return out
}

// Each list of up to four openings, of places that are open and one that is not.
func TestValidOfEachListOfOpenings(t *testing.T) {
	b := book.New()
	s := baseOf(1, 0, 3, 4, 9)
	lists(openingsAt(0, 3, 4, 5, 9), 4, func(l []api.Opening) {
		n := openedAt(l)
		wantValid(t, "a list", b, s, closed(b, l, nil), rising(n) && !slices.Contains(n, 5))
	})
}

// Each list of up to four tombstones, likewise.
func TestValidOfEachListOfTombs(t *testing.T) {
	b := book.New()
	s := baseOf(1, 0, 3, 4, 9)
	lists(tombsAt(b, 0, 3, 4, 5, 9), 4, func(l []api.Tomb) {
		n := buriedAt(l)
		wantValid(t, "a list", b, s, closed(b, nil, l), rising(n) && !slices.Contains(n, 5))
	})
}

// Each set of openings beside each set of tombstones: they have no index in common.
func TestValidOfWhatIsOpenedAndBuried(t *testing.T) {
	b := book.New()
	s := baseOf(1, 1, 2, 3, 4, 5)
	set := func(which int) []int {
		var l []int
		for i := range 5 {
			if which>>i&1 == 1 {
				l = append(l, i+1)
			}
		}
		return l
	}
	for opened := range 1 << 5 {
		for buried := range 1 << 5 {
			x := closed(b, openingsAt(set(opened)...), tombsAt(b, set(buried)...))
			wantValid(t, "opened and buried", b, s, x, opened&buried == 0)
		}
	}
}

func TestValidOfManyPlaces(t *testing.T) {
	b := book.New()
	s := baseOf(1, from(0, 200)...)
	for _, n := range []int{0, 1, 63, 64, 65, 66, 100} {
		for _, m := range []int{0, 1, 63, 64, 65, 66, 100} {
			x := closed(b, openingsAt(from(100, n)...), tombsAt(b, from(0, m)...))
			wantValid(t, fmt.Sprintf("%d openings, %d tombstones", n, m), b, s, x, n <= 64 && m <= 64)
		}
	}
}

func TestValidWithOnePlaceOutOfOrder(t *testing.T) {
	b := book.New()
	s := baseOf(1, from(0, 200)...)
	openings, tombs := openingsAt(from(100, 64)...), tombsAt(b, from(0, 64)...)
	for i := range 63 {
		l := slices.Clone(openings)
		l[i], l[i+1] = l[i+1], l[i]
		wantValid(t, "two openings the other way round", b, s, closed(b, l, tombs), false)
		l = slices.Clone(openings)
		l[i+1] = l[i]
		wantValid(t, "an opening twice", b, s, closed(b, l, tombs), false)
		m := slices.Clone(tombs)
		m[i], m[i+1] = m[i+1], m[i]
		wantValid(t, "two tombstones the other way round", b, s, closed(b, openings, m), false)
		m = slices.Clone(tombs)
		m[i+1] = m[i]
		wantValid(t, "a tombstone twice", b, s, closed(b, openings, m), false)
	}
	for i := range 64 {
		m := slices.Clone(tombs)
		for j := i; j < 64; j++ {
			m[j] = tombOf(b, 36+j, 0, 1, 2)
		}
		wantValid(t, "the greatest is not opened", b, s, closed(b, openings, m), true)
		m[63] = tombOf(b, 100+i, 0, 1, 2)
		wantValid(t, "one of them is opened", b, s, closed(b, openings, m), false)
	}
	wantValid(t, "as they were", b, s, closed(b, openings, tombs), true)
}

// Indexes are held as they are: a place is open, if the base has it.
func TestValidOfIndexes(t *testing.T) {
	b := book.New()
	indexes := []int{0, 1, 63, 64, 65, 127, 128, 1 << 20, 1 << 32, 1<<32 + 1, math.MaxInt - 1, math.MaxInt}
	s := baseOf(1, indexes...)
	wantValid(t, "opened", b, s, closed(b, openingsAt(indexes...), nil), true)
	wantValid(t, "buried", b, s, closed(b, nil, tombsAt(b, indexes...)), true)
	for _, i := range []int{2, 62, 66, 129, 1<<32 + 2, math.MaxInt - 2} {
		wantValid(t, "opened, not open", b, s, closed(b, openingsAt(i), nil), false)
		wantValid(t, "buried, not open", b, s, closed(b, nil, tombsAt(b, i)), false)
	}
	for _, i := range []int{math.MinInt, -1} {
		wantValid(t, "a place below 0, opened", b, s, closed(b, openingsAt(i), nil), false)
		wantValid(t, "a place below 0, buried", b, s, closed(b, nil, tombsAt(b, i)), false)
		wantValid(t, "a place below 0, buried, in the base", b, baseOf(1, i), closed(b, nil, tombsAt(b, i)), false)
	}
}

func TestValidWhereNothingIsOpen(t *testing.T) {
	b := book.New()
	for _, open := range []map[int]api.Entry{nil, {}} {
		s := baseOf(1)
		s.Open = open
		wantValid(t, "nothing", b, s, closed(b, nil, nil), true)
		wantValid(t, "an opening", b, s, closed(b, openingsAt(3), nil), false)
		wantValid(t, "the zero opening", b, s, closed(b, []api.Opening{{}}, nil), false)
		wantValid(t, "a tombstone", b, s, closed(b, nil, tombsAt(b, 3)), false)
		wantValid(t, "a tombstone of place 0", b, s, closed(b, nil, tombsAt(b, 0)), false)
	}
	// What a missing entry would be matched by: the zero name's own opening.
	s := baseOf(1)
	s.Open[4] = api.Entry{}
	o := api.Opening{Index: 3}
	wantValid(t, "an opening of the zero entry", b, s, closed(b, []api.Opening{o}, nil), false)
	s.Open[3] = entryOf(api.Name{}, o)
	wantValid(t, "an opening of nothing, where that was committed to", b, s, closed(b, []api.Opening{o}, nil), true)
}

func TestValidOfOpeningsThatDoNotMatch(t *testing.T) {
	b := book.New()
	s := baseOf(1, 2, 3, 4, 5)
	for i := range 3 {
		spoil := func(what string, want bool, do func(*api.Opening)) {
			l := openingsAt(2, 3, 5)
			do(&l[i])
			wantValid(t, what, b, s, closed(b, l, nil), want)
		}
		spoil("as it is", true, func(*api.Opening) {})
		spoil("another payload", false, func(o *api.Opening) { o.Payload[0]++ })
		spoil("a byte less", false, func(o *api.Opening) { o.Payload = o.Payload[1:] })
		spoil("a byte more", false, func(o *api.Opening) { o.Payload = append(o.Payload, 0) })
		spoil("no payload", false, func(o *api.Opening) { o.Payload = nil })
		spoil("another nonce", false, func(o *api.Opening) { o.Nonce[31]++ })
		spoil("no nonce", false, func(o *api.Opening) { o.Nonce = api.Hash{} })
		spoil("another place's", false, func(o *api.Opening) { at := o.Index; *o = openingAt(4); o.Index = at })
	}
}

// The entry's hash and name are both asked for; its time is not.
func TestValidOfEntriesThatDoNotMatch(t *testing.T) {
	b := book.New()
	x := closed(b, openingsAt(3), nil)
	spoil := func(what string, want bool, do func(*api.Entry)) {
		s := baseOf(1, 3)
		e := s.Open[3]
		do(&e)
		s.Open[3] = e
		wantValid(t, what, b, s, x, want)
	}
	spoil("as it is", true, func(*api.Entry) {})
	spoil("another time", true, func(e *api.Entry) { e.Time = end })
	spoil("another client", false, func(e *api.Entry) { e.Name.Client++ })
	spoil("another number", false, func(e *api.Entry) { e.Name.Seq++ })
	for i := range 32 {
		spoil("another hash", false, func(e *api.Entry) { e.Hash[i] ^= 1 })
	}
	spoil("of another name", true, func(e *api.Entry) { *e = entryOf(e.Name, openingAt(3)) })
	spoil("of another name's hash", false, func(e *api.Entry) { e.Hash = committed(name(2, 2), hashOf(3), openingAt(3).Payload) })
	spoil("of both", true, func(e *api.Entry) { *e = entryOf(name(2, 2), openingAt(3)) })
}

func TestValidOfPayloads(t *testing.T) {
	b := book.New()
	for _, size := range []int{0, 1, 2, 127, 128, 255, 256, 257, 258, 300, 512, 1 << 16} {
		o := api.Opening{Index: 3, Payload: bytes.Repeat([]byte{7}, size), Nonce: hashOf(2)}
		s := baseOf(1, 2, 5)
		s.Open[3] = entryOf(name(1, 1), o)
		wantValid(t, fmt.Sprint(size, " bytes"), b, s, closed(b, []api.Opening{o}, nil), size <= 256)
		l := []api.Opening{openingAt(2), o, openingAt(5)}
		wantValid(t, fmt.Sprint(size, " bytes, among others"), b, s, closed(b, l, nil), size <= 256)
	}
}

// Each tombstone is right, of the base's configuration.
func TestValidWithOneTombSpoilt(t *testing.T) {
	b := book.New()
	for _, f := range []int{1, 3} {
		for i := range 3 {
			spoil := func(what string, want bool, do func(*api.Tomb)) {
				s, x := good(b, f)
				do(&x.Tombs[i])
				wantValid(t, what, b, s, x, want)
			}
			spoil("as it is", true, func(*api.Tomb) {})
			spoil("of other replicas", true, func(x *api.Tomb) { *x = tombOf(b, x.Index, upTo(2*f+1)...) })
			spoil("one too few", false, func(x *api.Tomb) { x.Denies = x.Denies[1:] })
			spoil("one too many", false, func(x *api.Tomb) { *x = tombOf(b, x.Index, upTo(2*f+2)...) })
			spoil("none", false, func(x *api.Tomb) { x.Denies = nil })
			spoil("out of order", false, func(x *api.Tomb) { slices.Reverse(x.Denies) })
			spoil("not signed", false, func(x *api.Tomb) { x.Denies[0].Sig = api.Sig{} })
			spoil("signed by another one", false, func(x *api.Tomb) { x.Denies[0] = denyBy(b, 0, x.Denies[0]) })
			spoil("of the next index", false, func(x *api.Tomb) { x.Denies = tombOf(b, x.Index+1, upTo(2*f+1)...).Denies })
			spoil("of a place that is not open", false, func(x *api.Tomb) { *x = tombOf(b, 2*x.Index+100, upTo(2*f+1)...) })
		}
	}
}

// A denial of a place that is logged under another index buries nothing there.
func TestValidOfAClosedPlace(t *testing.T) {
	b := book.New()
	s, x := good(b, 1)
	for _, i := range []int{2, 3, 5, 8, 9} {
		less := batch.Base{Conf: s.Conf, Epoch: s.Epoch, Last: s.Last, Logged: s.Logged, Open: map[int]api.Entry{}}
		for at, e := range s.Open {
			if at != i {
				less.Open[at] = e
			}
		}
		wantValid(t, fmt.Sprint("without place ", i), b, less, x, false)
	}
	delete(s.Open, 6)
	wantValid(t, "without the place that is neither", b, s, x, true)
}
