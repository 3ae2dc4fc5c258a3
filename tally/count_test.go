package tally_test

import (
	"math"
	"testing"

	"gavel/api"
)

// P13.1: For, All

func wantFor(t *testing.T, got teller, kind, round int, h api.Hash, want int) {
	t.Helper()
	if n := got.For(kind, round, h); n != want {
		t.Errorf("for %x of kind %d, round %d: %d, want %d", h, kind, round, n, want)
	}
}

func wantAll(t *testing.T, got teller, kind, round, want int) {
	t.Helper()
	if n := got.All(kind, round); n != want {
		t.Errorf("all of kind %d, round %d: %d, want %d", kind, round, n, want)
	}
}

func TestForAndAllOfSomeVotes(t *testing.T) {
	got := fresh(t, confOf(2))
	add(t, got, voices(api.Prevote, 4, hashOf(1), 6, 0, 3)...)
	add(t, got, voices(api.Prevote, 4, hashOf(2), 5, 1)...)
	add(t, got, voices(api.Precommit, 4, hashOf(1), 6)...)
	add(t, got, voices(api.Prevote, 5, hashOf(1), 0, 1, 2, 3, 4, 5, 6)...)
	wantFor(t, got, api.Prevote, 4, hashOf(1), 3)
	wantFor(t, got, api.Prevote, 4, hashOf(2), 2)
	wantFor(t, got, api.Prevote, 4, hashOf(3), 0)
	wantFor(t, got, api.Prevote, 4, zeroHash, 0)
	wantFor(t, got, api.Precommit, 4, hashOf(1), 1)
	wantFor(t, got, api.Precommit, 4, hashOf(2), 0)
	wantFor(t, got, api.Prevote, 5, hashOf(1), 7)
	wantFor(t, got, api.Precommit, 5, hashOf(1), 0)
	wantAll(t, got, api.Prevote, 4, 5)
	wantAll(t, got, api.Precommit, 4, 1)
	wantAll(t, got, api.Prevote, 5, 7)
	wantAll(t, got, api.Precommit, 5, 0)
}

// Nobody voted for what there is not.
func TestForAndAllOfWhatThereIsNot(t *testing.T) {
	got := fresh(t, conf)
	for _, round := range []int{0, 1, api.MaxRound} {
		add(t, got, voices(api.Prevote, round, hashOf(1), 0, 1, 2, 3)...)
		add(t, got, voices(api.Precommit, round, hashOf(1), 0, 1, 2, 3)...)
	}
	for _, kind := range append([]int{-2, -1, 0, 3, 4}, far...) {
		for _, round := range []int{0, 1, api.MaxRound} {
			wantFor(t, got, kind, round, hashOf(1), 0)
			wantAll(t, got, kind, round, 0)
		}
	}
	for _, round := range append([]int{-2, -1, 2, api.MaxRound - 1, api.MaxRound + 1, api.MaxRound + 2}, far...) {
		for _, kind := range []int{api.Prevote, api.Precommit} {
			wantFor(t, got, kind, round, hashOf(1), 0)
			wantAll(t, got, kind, round, 0)
		}
	}
	for _, h := range []api.Hash{zeroHash, hashOf(0), hashOf(2), hashOf(1 << 8), hashOf(1 << 16)} {
		wantFor(t, got, api.Prevote, 0, h, 0)
	}
}

// Hashes that differ in one byte alone, wherever it is, are unlike.
func TestForOfHashesThatDifferInEachByte(t *testing.T) {
	for i := range 32 {
		for _, by := range []byte{1, 2, 128, 255} {
			a, b := api.Hash{}, api.Hash{}
			b[i] = by
			got := holding(t, vote{api.Prevote, 0, 0, a}, vote{api.Prevote, 0, 1, b}, vote{api.Prevote, 0, 3, a})
			wantFor(t, got, api.Prevote, 0, a, 2)
			wantFor(t, got, api.Prevote, 0, b, 1)
			b[31-i] += 3
			wantFor(t, got, api.Prevote, 0, b, 0)
			wantAll(t, got, api.Prevote, 0, 3)
		}
	}
}

// Asking is no vote: it changes nothing.
func TestAskingChangesNothing(t *testing.T) {
	got := fresh(t, conf)
	for range 3 {
		wantVotes(t, "asked", got)
	}
	votes := []vote{{api.Prevote, 7, 1, hashOf(4)}}
	add(t, got, votes...)
	for _, kind := range askedKinds {
		for _, round := range askedRounds {
			got.For(kind, round, hashOf(9))
			got.For(kind, round, api.Hash{9: math.MaxUint8})
		}
	}
	wantVotes(t, "asked", got, votes...)
}

func TestManyRoundsAndHashes(t *testing.T) {
	got := fresh(t, confOf(21))
	for round := range 300 {
		for replica := range 64 {
			add(t, got, vote{api.Prevote, round, replica, hashOf(round*64 + replica)}, vote{api.Precommit, round, replica, hashOf(replica % 7)})
		}
	}
	for round := range 300 {
		wantAll(t, got, api.Prevote, round, 64)
		wantAll(t, got, api.Precommit, round, 64)
		for replica := range 64 {
			wantFor(t, got, api.Prevote, round, hashOf(round*64+replica), 1)
			wantFor(t, got, api.Prevote, round, hashOf(round*64+replica+64), 0)
		}
		for h := range 8 {
			wantFor(t, got, api.Precommit, round, hashOf(h), []int{10, 9, 9, 9, 9, 9, 9, 0}[h])
		}
	}
}
