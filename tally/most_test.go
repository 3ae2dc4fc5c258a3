package tally_test

import (
	"slices"
	"testing"

	"gavel/api"
)

// P13.1: Most

func wantMost(t *testing.T, what string, got teller, kind, round int, h api.Hash, n int) {
	t.Helper()
	if most, m := got.Most(kind, round); most != h || m != n {
		t.Errorf("%s: most of kind %d, round %d: %x %d, want %x %d", what, kind, round, most, m, h, n)
	}
}

func TestMostOfNoVotes(t *testing.T) {
	got := holding(t, voices(api.Prevote, 3, hashOf(9), 0, 1, 2)...)
	for _, kind := range askedKinds {
		for _, round := range askedRounds {
			if kind != api.Prevote || round != 3 {
				wantMost(t, "nobody voted", got, kind, round, zeroHash, 0)
			}
		}
	}
	wantMost(t, "three did", got, api.Prevote, 3, hashOf(9), 3)
}

// The most votes count, not the hash; of as many the least hash.
func TestMostWhileVotesCome(t *testing.T) {
	got := fresh(t, confOf(2))
	for i, x := range []struct{ hash, most, n int }{
		{5, 5, 1}, // the first one
		{7, 5, 1}, // a greater one with as many
		{7, 7, 2}, // that one has more
		{3, 7, 2}, // a less one has fewer
		{5, 5, 2}, // a less one has as many
		{3, 3, 2}, // a less one still
		{7, 7, 3}, // the greatest one has the most
	} {
		add(t, got, vote{api.Precommit, 9, i, hashOf(x.hash)})
		wantMost(t, "votes come", got, api.Precommit, 9, hashOf(x.most), x.n)
		wantMost(t, "the other kind", got, api.Prevote, 9, zeroHash, 0)
	}
}

// The zero hash is the least of all, and is one that is voted for.
func TestMostOfTheZeroHash(t *testing.T) {
	got := holding(t, vote{api.Prevote, 0, 0, hashOf(1)})
	wantMost(t, "one vote", got, api.Prevote, 0, hashOf(1), 1)
	add(t, got, vote{api.Prevote, 0, 1, zeroHash})
	wantMost(t, "as many for none", got, api.Prevote, 0, zeroHash, 1)
	add(t, got, vote{api.Prevote, 0, 2, hashOf(1)})
	wantMost(t, "fewer for none", got, api.Prevote, 0, hashOf(1), 2)
	add(t, got, vote{api.Prevote, 0, 3, zeroHash})
	wantMost(t, "as many for none", got, api.Prevote, 0, zeroHash, 2)
}

// Of two hashes with as many votes the first byte that differs decides, whichever came first.
func TestMostOfHashesThatDifferInEachByte(t *testing.T) {
	for i := range 32 {
		for _, x := range [][2]byte{{0, 1}, {1, 2}, {9, 10}, {127, 128}, {0, 255}, {254, 255}} {
			a, b := api.Hash{}, api.Hash{}
			for j := range 32 {
				a[j], b[j] = 100, 100
				if j > i {
					a[j] = 200 // what comes behind does not count
				}
			}
			a[i], b[i] = x[0], x[1]
			for _, l := range [][]api.Hash{{a, b}, {b, a}, {a, a, b, b}, {b, b, a, a}, {a, b, b, a}, {b, a, a, b}} {
				got := fresh(t, conf)
				for replica, h := range l {
					add(t, got, vote{api.Prevote, 1, replica, h})
				}
				wantMost(t, "the least one", got, api.Prevote, 1, a, len(l)/2)
			}
			got := fresh(t, conf)
			add(t, got, vote{api.Prevote, 1, 0, a}, vote{api.Prevote, 1, 1, b}, vote{api.Prevote, 1, 2, b})
			wantMost(t, "the greater one", got, api.Prevote, 1, b, 2)
		}
	}
}

// Kinds and rounds have each their own most.
func TestMostOfEachKindAndRound(t *testing.T) {
	got := fresh(t, conf)
	for i, round := range []int{0, 1, 256, api.MaxRound} {
		for kind := range 2 {
			add(t, got, voices(kind+1, round, hashOf(2*i+kind), 0, 2, 3)...)
			add(t, got, vote{kind + 1, round, 1, hashOf(40)})
		}
	}
	for i, round := range []int{0, 1, 256, api.MaxRound} {
		for kind := range 2 {
			wantMost(t, "its own", got, kind+1, round, hashOf(2*i+kind), 3)
		}
	}
}

// However the votes of seven replicas for four hashes fall, in any of some orders, the most is told.
func TestMostOfEachList(t *testing.T) {
	turn := []func([]vote){func([]vote) {}, slices.Reverse[[]vote], func(l []vote) { l[0], l[3], l[6] = l[3], l[6], l[0] }}
	for number := range 1 << 14 {
		var l []vote
		for replica := range 7 {
			l = append(l, vote{api.Prevote, 2, replica, hashOf(number >> (2 * replica) % 4)})
		}
		turn[number%3](l)
		got, p := fresh(t, confOf(2)), newPlain(confOf(2))
		for _, v := range l {
			add(t, got, v)
			p.Add(v.kind, v.round, v.replica, v.hash)
			h, n := p.Most(api.Prevote, 2)
			wantMost(t, "a list", got, api.Prevote, 2, h, n)
		}
	}
}
