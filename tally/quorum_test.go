package tally_test

import (
	"math/rand"
	"testing"

	"gavel/api"
	"gavel/tally"
	"gavel/wire"
)

// P13.2: two unlike hashes never have a quorum each, if at most F replicas vote twice.

// unlike tells whether two unlike hashes, 1 and 2, have a quorum of one kind and round, in whichever of the two tallies.
func unlike(c api.Conf, kind, round int, a, b *tally.Tally) bool {
	var has [3]bool
	for h := 1; h <= 2; h++ {
		has[h] = max(a.For(kind, round, hashOf(h)), b.For(kind, round, hashOf(h))) >= wire.Quorum(c)
	}
	return has[1] && has[2]
}

// Each of four replicas votes in one tally, and in another one, for one hash, another one, or not at all.
func TestQuorumsOfFourReplicas(t *testing.T) {
	met := map[int]int{} // how often two quorums were met where so many voted twice
	for number := range 6561 {
		a, b := fresh(t, conf), fresh(t, conf)
		twice := 0
		for replica, n := 0, number; replica < 4; replica, n = replica+1, n/9 {
			x, y := n%3, n/3%3
			if x > 0 {
				add(t, a, vote{api.Precommit, 5, replica, hashOf(x)})
			}
			if y > 0 {
				add(t, b, vote{api.Precommit, 5, replica, hashOf(y)})
			}
			if x > 0 && y > 0 && x != y {
				twice++
			}
		}
		if unlike(conf, api.Precommit, 5, a, b) {
			met[twice]++
		}
	}
	if met[0] != 0 || met[1] != 0 || met[2] == 0 {
		t.Errorf("two quorums were met: %v", met)
	}
}

// However those that vote once fall in two, F that vote twice make no two quorums; F + 1 do.
func TestQuorumsOfEachSize(t *testing.T) {
	for f := 1; f <= api.MaxF; f++ {
		c, n := confOf(f), 3*f+1
		for _, twice := range []int{f, f + 1} {
			met := 0
			for split := twice; split <= n; split++ {
				a, b := fresh(t, c), fresh(t, c)
				for replica := range n {
					if replica < twice || replica < split {
						add(t, a, vote{api.Prevote, 0, replica, hashOf(1)})
					}
					if replica < twice || replica >= split {
						add(t, b, vote{api.Prevote, 0, replica, hashOf(2)})
					}
				}
				if unlike(c, api.Prevote, 0, a, b) {
					met++
				}
			}
			if (met > 0) != (twice > f) {
				t.Errorf("F %d, %d vote twice: two quorums %d times", f, twice, met)
			}
		}
	}
}

// Votes of chance, which come more than once, and in unlike orders; the liars' are other ones in each tally, the rest begins as one.
func TestQuorumsOfChance(t *testing.T) {
	r := rand.New(rand.NewSource(13))
	met := 0
	for range 3000 {
		f := r.Intn(4) + 1
		c, n := confOf(f), 3*f+1
		a := fresh(t, c)
		b := a.Clone()
		liars := r.Perm(n)[:f]
		for _, replica := range r.Perm(n) {
			h := 1 + r.Intn(8)/7
			for range 1 + r.Intn(2) {
				a.Add(api.Prevote, 1, replica, hashOf(h))
				b.Add(api.Prevote, 1, replica, hashOf(h))
			}
		}
		for range 3 {
			for _, replica := range liars {
				for _, to := range []*tally.Tally{a, b} {
					to.Add(api.Prevote, 1+r.Intn(2), replica, hashOf(1+r.Intn(2)))
					to.Add(api.Precommit, 1, replica, hashOf(1+r.Intn(2)))
				}
			}
		}
		if unlike(c, api.Prevote, 1, a, b) {
			t.Fatalf("F %d: two quorums", f)
		}
		if max(a.For(1, 1, hashOf(1)), b.For(1, 1, hashOf(1))) >= wire.Quorum(c) {
			met++
		}
	}
	if met < 1000 {
		t.Errorf("a quorum is met %d times alone", met)
	}
}

// In one tally nobody votes twice at all.
func TestQuorumsOfOneTally(t *testing.T) {
	got := fresh(t, conf)
	for h := 1; h <= 2; h++ {
		for replica := range 4 {
			got.Add(api.Prevote, 0, replica, hashOf(h))
		}
	}
	if unlike(conf, api.Prevote, 0, got, got) || got.For(api.Prevote, 0, hashOf(1)) != 4 {
		t.Error("two quorums of one tally")
	}
}
