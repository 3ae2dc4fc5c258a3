package tally_test

import (
	"math"
	"testing"

	"gavel/api"
	"gavel/tally"
)

// P13.1: New

func edges() []int {
	l := []int{math.MinInt, -1 << 40, -101, 1 << 32, 1<<32 + 1, math.MaxInt / 3, math.MaxInt}
	for n := -22; n <= 103; n++ {
		l = append(l, n)
	}
	return l
}

func TestNewOfEachConfiguration(t *testing.T) {
	for _, f := range edges() {
		for _, clients := range edges() {
			c := api.Conf{F: f, Clients: clients}
			got, e := tally.New(c)
			if may := f >= 1 && f <= 21 && clients >= 1 && clients <= 100; may != (got != nil) || may != (e == api.OK) || !may && e != api.ErrArg {
				t.Errorf("New(%v): %v, %d", c, got, e)
			}
		}
	}
}

func TestANewTallyHasNoVotes(t *testing.T) {
	for f := 1; f <= api.MaxF; f++ {
		got := fresh(t, confOf(f))
		wantVotes(t, "new", got)
		for round := -3; round < 100; round++ {
			if h, n := got.Most(api.Prevote, round); got.Heard(round) != 0 || h != zeroHash || n != 0 {
				t.Errorf("F %d, round %d: %d heard, most %x, %d", f, round, got.Heard(round), h, n)
			}
		}
	}
}

func TestEachNewTallyIsAnother(t *testing.T) {
	a, b := fresh(t, conf), fresh(t, conf)
	add(t, a, vote{api.Prevote, 1, 2, hashOf(1)})
	wantVotes(t, "the other one", b)
	add(t, b, vote{api.Prevote, 1, 2, hashOf(2)})
	wantVotes(t, "the first one", a, vote{api.Prevote, 1, 2, hashOf(1)})
	wantVotes(t, "the other one", b, vote{api.Prevote, 1, 2, hashOf(2)})
}
