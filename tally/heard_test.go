package tally_test

import (
	"math"
	"testing"

	"gavel/api"
)

// P13.1: Heard

func wantHeard(t *testing.T, what string, got teller, round, want int) {
	t.Helper()
	if n := got.Heard(round); n != want {
		t.Errorf("%s: from round %d on %d are heard, want %d", what, round, n, want)
	}
}

func TestHeardInOrAboveARound(t *testing.T) {
	got := holding(t, vote{api.Prevote, 5, 1, hashOf(1)}, vote{api.Precommit, 7, 2, hashOf(1)}, vote{api.Prevote, 0, 3, hashOf(2)})
	for round, want := range map[int]int{0: 3, 1: 2, 4: 2, 5: 2, 6: 1, 7: 1, 8: 0, 100: 0, api.MaxRound: 0, api.MaxRound + 1: 0, math.MaxInt: 0} {
		wantHeard(t, "three replicas", got, round, want)
	}
}

// All votes are above a round below 0; who has none is heard nowhere.
func TestHeardBelowTheFirstRound(t *testing.T) {
	got := fresh(t, conf)
	for n := range 4 {
		for _, round := range []int{-1, -2, -3, -1 << 32, math.MinInt, math.MinInt + 1} {
			wantHeard(t, "below 0", got, round, n)
		}
		wantHeard(t, "from 0 on", got, 0, n)
		add(t, got, vote{api.Prevote, n % 2, n, hashOf(1)})
	}
	wantHeard(t, "all", got, -1, 4)
}

// A replica counts once, in however many rounds and of whichever kinds it votes, and whatever for.
func TestHeardCountsUnlikeReplicas(t *testing.T) {
	got := fresh(t, conf)
	for _, v := range []vote{
		{api.Prevote, 3, 2, hashOf(1)}, {api.Precommit, 3, 2, hashOf(1)}, {api.Prevote, 9, 2, zeroHash}, {api.Prevote, 1, 2, hashOf(2)},
		{api.Precommit, 9, 2, hashOf(3)}, {api.Precommit, 0, 2, zeroHash}, {api.Prevote, 6, 2, hashOf(1)},
	} {
		add(t, got, v)
		wantHeard(t, "one replica", got, 0, 1)
	}
	wantHeard(t, "one replica", got, 9, 1)
	wantHeard(t, "one replica", got, 10, 0)
}

// A vote below an earlier one leaves what was heard above it.
func TestHeardWhateverComesFirst(t *testing.T) {
	for _, kinds := range [][2]int{{1, 1}, {1, 2}, {2, 1}, {2, 2}} {
		for _, rounds := range [][2]int{{2, 8}, {8, 2}, {0, 1}, {1, 0}, {0, api.MaxRound}, {api.MaxRound, 0}} {
			got := holding(t, vote{kinds[0], rounds[0], 0, hashOf(1)}, vote{kinds[1], rounds[1], 0, hashOf(1)}, vote{1, rounds[0], 3, zeroHash})
			low, high := min(rounds[0], rounds[1]), max(rounds[0], rounds[1])
			above := 1
			if rounds[0] == high {
				above = 2
			}
			wantHeard(t, "both", got, low, 2)
			wantHeard(t, "above the low one", got, low+1, above)
			wantHeard(t, "the high one", got, high, above)
			wantHeard(t, "above both", got, high+1, 0)
		}
	}
}

func TestHeardOfTheLastRound(t *testing.T) {
	got := fresh(t, confOf(21))
	for replica := range 64 {
		add(t, got, vote{replica%2 + 1, api.MaxRound - replica, 63 - replica, hashOf(replica)})
	}
	for i := range 70 {
		wantHeard(t, "one in each of the last rounds", got, api.MaxRound-i, min(i+1, 64))
	}
	wantHeard(t, "past the last one", got, api.MaxRound+1, 0)
}

// Votes that are refused are not heard.
func TestHeardOfRefusedVotes(t *testing.T) {
	got := holding(t, vote{api.Prevote, 2, 1, hashOf(1)})
	refuse(t, "no votes", got, vote{3, 4, 1, hashOf(1)}, vote{0, 4, 0, hashOf(1)}, vote{api.Prevote, -1, 0, hashOf(1)},
		vote{api.Prevote, api.MaxRound + 1, 0, hashOf(1)}, vote{api.Prevote, 4, 4, hashOf(1)}, vote{api.Prevote, 4, -1, hashOf(1)})
	wantHeard(t, "one vote", got, -1, 1)
	wantHeard(t, "one vote", got, 2, 1)
	wantHeard(t, "one vote", got, 3, 0)
}
