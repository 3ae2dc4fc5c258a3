package tally_test

import (
	"testing"

	"gavel/api"
)

// P13.1: Clone; R4

func TestCloneOfANewTally(t *testing.T) {
	got := fresh(t, conf)
	c := got.Clone()
	if c == nil || c == got {
		t.Fatalf("the clone of %p is %p", got, c)
	}
	wantVotes(t, "the clone", c)
	v := vote{api.Prevote, 0, 0, hashOf(1)}
	add(t, c, v)
	wantVotes(t, "the original", got)
	wantVotes(t, "the clone", c, v)
}

// Its replicas are the original's.
func TestCloneIsOfTheSameSize(t *testing.T) {
	for f := 1; f <= api.MaxF; f++ {
		c := fresh(t, confOf(f)).Clone()
		refuse(t, "past the last one", c, vote{api.Prevote, 0, 3*f + 1, hashOf(1)})
		add(t, c, vote{api.Prevote, 0, 3 * f, hashOf(1)})
	}
}

func TestEachGoesItsOwnWay(t *testing.T) {
	old := []vote{{api.Prevote, 1, 0, hashOf(2)}, {api.Prevote, 1, 1, hashOf(3)}, {api.Precommit, 7, 1, zeroHash}}
	got := holding(t, old...)
	c := got.Clone()
	wantVotes(t, "the clone", c, old...)
	refuse(t, "the clone, what the original has", c, old...)
	// The votes of one are neither counted nor in the way in the other, of polls that both had and of new ones.
	first := []vote{{api.Prevote, 1, 2, hashOf(3)}, {api.Prevote, 2, 3, hashOf(1)}, {api.Precommit, 7, 0, hashOf(1)}, {api.Prevote, api.MaxRound, 0, hashOf(4)}}
	second := []vote{{api.Prevote, 1, 2, hashOf(2)}, {api.Prevote, 2, 3, hashOf(4)}, {api.Precommit, 7, 3, zeroHash}, {api.Prevote, 3, 0, hashOf(4)}}
	add(t, got, first...)
	wantVotes(t, "the clone, the original has taken some", c, old...)
	add(t, c, second...)
	wantVotes(t, "the original", got, append(old[:3:3], first...)...)
	wantVotes(t, "the clone", c, append(old[:3:3], second...)...)
}

func TestClonesOfClones(t *testing.T) {
	votes := voices(api.Prevote, 3, hashOf(1), 0, 1, 2, 3)
	first := holding(t, votes[0])
	second := first.Clone()
	third := second.Clone()
	fourth := first.Clone()
	add(t, second, votes[1])
	add(t, third, votes[2])
	add(t, fourth, votes[3], votes[1])
	wantVotes(t, "the first", first, votes[0])
	wantVotes(t, "its clone", second, votes[0], votes[1])
	wantVotes(t, "the clone of that", third, votes[0], votes[2])
	wantVotes(t, "another clone of the first", fourth, votes[0], votes[3], votes[1])
}
