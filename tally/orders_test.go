package tally_test

import (
	"math/rand"
	"testing"

	"gavel/api"
	"gavel/tally"
)

// P13.1: many orders, each step held against a plain tally.

// try adds v to both, and tells whether they answer the same, then and to all that is asked behind it.
func try(t *testing.T, got *tally.Tally, p *plain, v vote) {
	t.Helper()
	answer, want := got.Add(v.kind, v.round, v.replica, v.hash), p.Add(v.kind, v.round, v.replica, v.hash)
	if a, b := told(got), told(p); answer != want || a != b {
		t.Fatalf("%v behind %v: %v, %s, want %v, %s", v, p.votes, answer, a, want, b)
	}
}

// pool are votes that may be, ones that may not, and ones that may not be together.
func pool() []vote {
	l := []vote{{0, 1, 0, hashOf(1)}, {3, 1, 0, hashOf(1)}, {1, -1, 0, hashOf(1)}, {1, api.MaxRound + 1, 0, hashOf(1)}, {1, 1, -1, hashOf(1)}, {1, 1, 4, hashOf(1)}}
	for _, replica := range []int{0, 3} {
		for h := range 3 {
			l = append(l, vote{api.Prevote, 1, replica, hashOf(h)})
		}
		l = append(l, vote{api.Precommit, 1, replica, hashOf(1)}, vote{api.Prevote, 2, replica, hashOf(1)}, vote{api.Prevote, 0, replica, hashOf(4)})
	}
	return l
}

func TestEachOrderOfThreeVotes(t *testing.T) {
	l := pool()
	for _, x := range l {
		for _, y := range l {
			for _, z := range l {
				got, p := fresh(t, conf), newPlain(conf)
				for _, v := range []vote{x, y, z} {
					got.Add(v.kind, v.round, v.replica, v.hash)
					p.Add(v.kind, v.round, v.replica, v.hash)
				}
				if a, b := told(got), told(p); a != b {
					t.Fatalf("%v, %v, %v: %s, want %s", x, y, z, a, b)
				}
			}
		}
	}
}

func TestLongOrders(t *testing.T) {
	r := rand.New(rand.NewSource(14))
	for number := range 105 {
		f := 1 + number%api.MaxF
		c := confOf(f)
		got, p := fresh(t, c), newPlain(c)
		hashes := 1 + r.Intn(5)
		for range 30 + 4*f {
			v := vote{r.Intn(2) + 1, askedRounds[2+r.Intn(8)], r.Intn(3*f + 1), hashOf(r.Intn(hashes))}
			switch r.Intn(30) {
			case 0:
				v.kind = askedKinds[r.Intn(len(askedKinds))]
			case 1:
				v.round = askedRounds[r.Intn(len(askedRounds))]
			case 2:
				v.replica = r.Intn(200) - 100
			case 3:
				// One of the two goes on, the other one takes what it would not.
				other := got.Clone()
				if r.Intn(2) == 0 {
					got, other = other, got
				}
				for replica := range 3*f + 1 {
					other.Add(v.kind, v.round, replica, hashOf(3))
				}
			}
			try(t, got, p, v)
		}
	}
}

// The order in which votes come does not bear on what is told, where nobody votes twice.
func TestTheOrderOfVotesDoesNotBear(t *testing.T) {
	r := rand.New(rand.NewSource(15))
	var votes []vote
	for replica := range 7 {
		for kind := 1; kind <= 2; kind++ {
			for round := range 3 {
				votes = append(votes, vote{kind, round, replica, hashOf(r.Intn(4))})
			}
		}
	}
	want := told(&plain{votes: votes})
	for range 200 {
		got := fresh(t, confOf(2))
		for _, i := range r.Perm(len(votes)) {
			add(t, got, votes[i])
		}
		if s := told(got); s != want {
			t.Fatalf("%s, want %s", s, want)
		}
	}
}
