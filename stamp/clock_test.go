package stamp_test

import (
	"math"
	"math/bits"
	"testing"

	"gavel/api"
	"gavel/book"
	"gavel/commit"
	"gavel/stamp"
)

// P9.1: New, Now, Tick, Floor, Raise

// conf is a service of four replicas and three clients.
var conf = api.Conf{F: 1, Clients: 3}

const end = math.MaxUint64 // of time: NoTime

// fresh is a new stamper.
func fresh(t *testing.T, c api.Conf, replica int) *stamp.Stamper {
	t.Helper()
	s, e := stamp.New(c, replica)
	if s == nil || e != api.OK {
		t.Fatalf("New of %v, %d: %v, %d", c, replica, s, e)
	}
	return s
}

// hashOf is a hash whose bytes differ with their place, and with salt.
func hashOf(salt int) api.Hash {
	var h api.Hash
	for i := range h {
		h[i] = byte(i*11 + salt*17 + 5)
	}
	return h
}

// signed is x, signed by that one.
func signed(b *book.Book, by int, x api.Commit) api.Commit {
	x.Sig = b.Sign(by, commit.Text(x))
	return x
}

// request is a commitment of the hash of that salt, as it may be, signed by its client.
func request(b *book.Book, client, seq, salt int) api.Commit {
	x := api.Commit{Name: api.Name{Client: client, Seq: seq}, Hash: hashOf(salt), Len: 5}
	return signed(b, api.ClientBase+client, x)
}

// times are those about which something begins or ends.
func times() []uint64 {
	return []uint64{
		0, 1, 2, 3, 9, 127, 128, 1<<32 - 1, 1 << 32, 1<<32 + 1, math.MaxInt64 - 1, math.MaxInt64, 1 << 63, 1<<63 + 1,
		end - 3, end - 2, end - 1, end,
	}
}

// wantTimes expects that clock, that floor.
func wantTimes(t *testing.T, what string, s *stamp.Stamper, now, floor uint64) {
	t.Helper()
	if s.Now() != now || s.Floor() != floor {
		t.Errorf("%s: clock %d, floor %d, want %d, %d", what, s.Now(), s.Floor(), now, floor)
	}
}

// wantNext expects that a new name gets that time, of a stamper that goes on as it was.
func wantNext(t *testing.T, what string, s *stamp.Stamper, time uint64) {
	t.Helper()
	b := book.New()
	x := request(b, 0, api.MaxSeq, 99)
	if got, e := s.Clone().Stamp(b, x); got.Time != time || e != api.OK {
		t.Errorf("%s: the next time is %d (%d), want %d", what, got.Time, e, time)
	}
}

// wantNoTime expects that no new name gets a time any more.
func wantNoTime(t *testing.T, what string, s *stamp.Stamper) {
	t.Helper()
	b := book.New()
	x := request(b, 0, api.MaxSeq, 99)
	if got, e := s.Clone().Stamp(b, x); got != (api.Stamp{}) || e != api.ErrTime {
		t.Errorf("%s: the next stamp is %v (%d), want none", what, got, e)
	}
}

func TestNewOfConfigurationsAndReplicas(t *testing.T) {
	numbers := []int{
		math.MinInt, -1 << 40, -1, 0, 1, 2, 3, 4, 5, 6, 7, 8, 20, 21, 22, 61, 62, 63, 64, 65, 66, 67, 99, 100, 101,
		1 << 32, 1<<32 + 1, 1<<62 + 1, math.MaxInt/3 + 1, math.MaxInt,
	}
	for _, f := range numbers {
		for _, clients := range numbers {
			for _, replica := range append(numbers, 3*f-1, 3*f, 3*f+1, 3*f+2) {
				c := api.Conf{F: f, Clients: clients}
				may := f >= 1 && f <= 21 && clients >= 1 && clients <= 100 && replica >= 0 && replica < 3*f+1
				s, e := stamp.New(c, replica)
				if may != (s != nil) || may != (e == api.OK) || !may && e != api.ErrArg {
					t.Fatalf("New of %v, %d: %v, %d", c, replica, s, e)
				}
			}
		}
	}
}

func TestNewHasNothing(t *testing.T) {
	for _, replica := range []int{0, 1, 3} {
		s := fresh(t, conf, replica)
		wantTimes(t, "a new one", s, 0, 0)
		wantStamps(t, "a new one", s)
		// So its last time is 0.
		wantNext(t, "a new one", s, 1)
	}
}

func TestNewOnesStandApart(t *testing.T) {
	b := book.New()
	s, other := fresh(t, conf, 1), fresh(t, conf, 1)
	s.Tick(7)
	answers(t, "Raise", s.Raise(9), api.OK)
	x := give(t, b, s, request(b, 0, 1, 1), 10)
	wantTimes(t, "the other", other, 0, 0)
	wantStamps(t, "the other", other)
	wantNext(t, "the other", other, 1)
	wantTimes(t, "the one", s, 7, 9)
	wantStamps(t, "the one", s, x)
}

func TestTickIsThatMoreAtMostTheEnd(t *testing.T) {
	for _, first := range times() {
		for _, then := range times() {
			s := fresh(t, conf, 0)
			s.Tick(first)
			wantTimes(t, "the first Tick", s, first, 0)
			s.Tick(then)
			sum, more := bits.Add64(first, then, 0)
			if more != 0 {
				sum = end
			}
			wantTimes(t, "then", s, sum, 0)
		}
	}
}

func TestTicksAddUp(t *testing.T) {
	s := fresh(t, conf, 0)
	for _, c := range []struct{ n, now uint64 }{
		{0, 0}, {1, 1}, {0, 1}, {1, 2}, {40, 42}, {1 << 32, 1<<32 + 42}, {1 << 63, 1<<63 + 1<<32 + 42}, {0, 1<<63 + 1<<32 + 42},
		{1<<63 - 1<<32 - 44, end - 1}, {0, end - 1}, {1, end}, {0, end}, {1, end}, {1 << 63, end}, {end - 1, end}, {end, end},
	} {
		s.Tick(c.n)
		wantTimes(t, "the ticks", s, c.now, 0)
	}
	for _, c := range []struct{ now, n, want uint64 }{
		{end - 1, 2, end}, {end - 1, end, end}, {end - 2, 1, end - 1}, {end - 2, 3, end}, {1, end, end}, {1, end - 1, end}, {1, end - 2, end - 1}, {0, end, end},
	} {
		s := fresh(t, conf, 0)
		s.Tick(c.now)
		s.Tick(c.n)
		wantTimes(t, "one Tick", s, c.want, 0)
	}
}

func TestTickChangesTheClockAlone(t *testing.T) {
	for _, n := range times() {
		b := book.New()
		s := fresh(t, conf, 2)
		answers(t, "Raise", s.Raise(4), api.OK)
		x := give(t, b, s, request(b, 1, 1, 1), 5)
		y := give(t, b, s, request(b, 1, 2, 1), 6)
		s.Tick(n)
		wantTimes(t, "behind a Tick", s, n, 4)
		wantStamps(t, "behind a Tick", s, x, y)
		if n < end {
			wantNext(t, "behind a Tick", s, max(n, 7))
		} else {
			wantNoTime(t, "behind a Tick", s)
		}
	}
}

func TestRaiseIsTheGreatestSoFar(t *testing.T) {
	for _, first := range times() {
		for _, then := range times() {
			s := fresh(t, conf, 0)
			floor := uint64(0)
			for _, to := range []uint64{first, then, first, 0, end, then} {
				want := api.ErrTime
				if to < end {
					want, floor = api.OK, max(floor, to)
				}
				answers(t, "Raise", s.Raise(to), want)
				wantTimes(t, "behind Raise", s, 0, floor)
			}
		}
	}
}

func TestRaisesOneBehindTheOther(t *testing.T) {
	s := fresh(t, conf, 0)
	for _, c := range []struct {
		to    uint64
		e     api.Errno
		floor uint64
	}{
		{end, api.ErrTime, 0}, {0, api.OK, 0}, {1, api.OK, 1}, {0, api.OK, 1}, {1, api.OK, 1}, {8, api.OK, 8}, {7, api.OK, 8}, {end, api.ErrTime, 8},
		{9, api.OK, 9}, {1 << 63, api.OK, 1 << 63}, {1<<63 - 1, api.OK, 1 << 63}, {end - 2, api.OK, end - 2}, {end, api.ErrTime, end - 2},
		{end - 3, api.OK, end - 2}, {end - 1, api.OK, end - 1}, {end, api.ErrTime, end - 1}, {end - 1, api.OK, end - 1}, {0, api.OK, end - 1},
	} {
		answers(t, "Raise", s.Raise(c.to), c.e)
		wantTimes(t, "behind Raise", s, 0, c.floor)
	}
}

func TestRaiseHangsOnTheFloorAlone(t *testing.T) {
	b := book.New()
	s := fresh(t, conf, 2)
	s.Tick(50)
	x := give(t, b, s, request(b, 1, 1, 1), 50)
	for _, to := range []uint64{3, 49, 50, 51} {
		answers(t, "Raise", s.Raise(to), api.OK)
		wantTimes(t, "below, at and past clock and last time", s, 50, to)
	}
	s.Tick(end)
	answers(t, "Raise at the end of the clock", s.Raise(52), api.OK)
	answers(t, "Raise at the end of the clock", s.Raise(end), api.ErrTime)
	wantTimes(t, "at the end of the clock", s, end, 52)
	wantStamps(t, "at the end of the clock", s, x)
}

func TestRaiseChangesTheFloorAlone(t *testing.T) {
	for _, to := range times() {
		b := book.New()
		s := fresh(t, conf, 2)
		s.Tick(5)
		x := give(t, b, s, request(b, 1, 1, 1), 5)
		y := give(t, b, s, request(b, 1, 2, 1), 6)
		s.Raise(to)
		floor := to
		if to == end {
			floor = 0
		}
		wantTimes(t, "behind Raise", s, 5, floor)
		wantStamps(t, "behind Raise", s, x, y)
		if to == end-1 {
			wantNoTime(t, "behind Raise", s)
		} else {
			wantNext(t, "behind Raise", s, max(floor+1, 7))
		}
	}
}
