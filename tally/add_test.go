package tally_test

import (
	"math"
	"testing"

	"gavel/api"
)

// P13.1: Add

// far are numbers that are none of a kind, a round or a replica, wherever they are cut.
var far = []int{math.MinInt, math.MinInt + 1, -1 << 40, -1 << 32, 1<<32 - 1, 1 << 32, 1<<32 + 1, 1<<32 + 2, 1 << 40, math.MaxInt - 1, math.MaxInt}

func TestAddOfKinds(t *testing.T) {
	for kind := -300; kind < 300; kind++ {
		for _, round := range []int{0, 1, 7, api.MaxRound} {
			got, v := fresh(t, conf), vote{kind, round, 3, hashOf(1)}
			if kind == 1 || kind == 2 {
				add(t, got, v)
				wantVotes(t, "a kind", got, v)
			} else {
				refuse(t, "a kind that there is not", got, v)
			}
		}
	}
	got := holding(t, voices(api.Prevote, 0, hashOf(1), 0, 1)...)
	for _, kind := range far {
		refuse(t, "a kind far off", got, vote{kind, 0, 2, hashOf(1)})
	}
}

func TestAddOfRounds(t *testing.T) {
	rounds := append([]int{-2, -1, 0, 1, 2, 255, 256, 257, 65535, 65536, 1<<20 - 1, 1 << 20, 1<<20 + 1, 1 << 21}, far...)
	for _, round := range rounds {
		for _, kind := range []int{api.Prevote, api.Precommit} {
			got, v := fresh(t, conf), vote{kind, round, 0, hashOf(1)}
			if round >= 0 && round <= 1<<20 {
				add(t, got, v)
				if n := got.For(kind, round, hashOf(1)); n != 1 || got.Heard(round) != 1 || got.Heard(round+1) != 0 {
					t.Errorf("%v: %d, heard %d, above it %d", v, n, got.Heard(round), got.Heard(round+1))
				}
			} else {
				refuse(t, "a round that there is not", got, v)
			}
		}
	}
}

func TestAddOfReplicas(t *testing.T) {
	for f := 1; f <= api.MaxF; f++ {
		got, n := fresh(t, confOf(f)), 0
		for replica := -130; replica < 200; replica++ {
			v := vote{api.Precommit, 2, replica, hashOf(3)}
			if replica < 0 || replica > 3*f {
				refuse(t, "a replica that there is not", got, v)
				continue
			}
			add(t, got, v)
			n++
			if got.For(2, 2, hashOf(3)) != n || got.All(2, 2) != n || got.Heard(0) != n {
				t.Errorf("F %d, of %d: for %d, all %d, heard %d", f, n, got.For(2, 2, hashOf(3)), got.All(2, 2), got.Heard(0))
			}
		}
		for _, replica := range append(far, api.ClientBase) {
			refuse(t, "a replica far off", got, vote{api.Prevote, 2, replica, hashOf(3)})
		}
		if n != 3*f+1 {
			t.Errorf("F %d: %d votes", f, n)
		}
	}
}

func TestAddOnceForEachReplica(t *testing.T) {
	for replica := range 4 {
		for _, kind := range []int{api.Prevote, api.Precommit} {
			for h := range 3 {
				v := vote{kind, 1, replica, hashOf(h)}
				got := holding(t, v)
				refuse(t, "the same vote, or another hash", got, v, vote{kind, 1, replica, hashOf(1)}, vote{kind, 1, replica, zeroHash}, vote{kind, 1, replica, hashOf(2)}, v)
				wantVotes(t, "one vote", got, v)
			}
		}
	}
}

// A vote stands in the way of no vote of another kind, another round or another replica.
func TestAddOfAnotherKindRoundOrReplica(t *testing.T) {
	first := vote{api.Prevote, 1, 2, hashOf(1)}
	got := holding(t, first)
	votes := []vote{first}
	for _, h := range []api.Hash{hashOf(1), hashOf(2)} {
		for _, v := range []vote{
			{api.Precommit, 1, 2, h}, {api.Prevote, 0, 2, h}, {api.Prevote, 2, 2, h}, {api.Prevote, api.MaxRound, 2, h},
			{api.Prevote, 1, 0, h}, {api.Prevote, 1, 1, h}, {api.Prevote, 1, 3, h}, {api.Precommit, 0, 1, h},
		} {
			one := holding(t, first)
			add(t, one, v)
			wantVotes(t, "two votes", one, first, v)
			if h == hashOf(1) {
				add(t, got, v)
				votes = append(votes, v)
			} else {
				refuse(t, "it has such a vote", got, v)
			}
			wantVotes(t, "many votes", got, votes...)
		}
	}
}

// What may not be is refused also where all else that there is may not be.
func TestAddOfWrongVotesInEachWay(t *testing.T) {
	kinds, rounds, replicas := []int{0, 1, 2, 3, -1}, []int{-1, 0, 5, api.MaxRound, api.MaxRound + 1}, []int{-1, 0, 3, 4}
	got, p := fresh(t, conf), newPlain(conf)
	for range 2 {
		for _, kind := range kinds {
			for _, round := range rounds {
				for _, replica := range replicas {
					for h := range 2 {
						answer := got.Add(kind, round, replica, hashOf(h))
						if want := p.Add(kind, round, replica, hashOf(h)); answer != want {
							t.Errorf("kind %d, round %d, replica %d, hash %d: %v", kind, round, replica, h, answer)
						}
						if a, b := told(got), told(p); a != b {
							t.Fatalf("kind %d, round %d, replica %d, hash %d: %s, want %s", kind, round, replica, h, a, b)
						}
					}
				}
			}
		}
	}
	if len(p.votes) != 2*3*2 {
		t.Errorf("%d votes", len(p.votes))
	}
}

// A vote for the zero hash is one as any other.
func TestAddOfTheZeroHash(t *testing.T) {
	got := holding(t, voices(api.Prevote, 3, zeroHash, 0, 1, 3)...)
	refuse(t, "it has voted for none", got, voices(api.Prevote, 3, hashOf(1), 0, 1, 3)...)
	if h, n := got.Most(api.Prevote, 3); h != zeroHash || n != 3 || got.For(api.Prevote, 3, zeroHash) != 3 || got.All(api.Prevote, 3) != 3 || got.Heard(3) != 3 {
		t.Errorf("three votes for none: %x %d, for it %d, all %d, heard %d", h, n, got.For(api.Prevote, 3, zeroHash), got.All(api.Prevote, 3), got.Heard(3))
	}
	add(t, got, vote{api.Prevote, 3, 2, hashOf(1)})
	wantVotes(t, "three for none", got, append(voices(api.Prevote, 3, zeroHash, 0, 1, 3), vote{api.Prevote, 3, 2, hashOf(1)})...)
}
