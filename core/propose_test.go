package core_test

import (
	"testing"

	"gavel/api"
	"gavel/core"
)

// P14.2: Propose

// isThere tells whether a proposal of that round and hash is there and ok: a quorum's precommits decide it then.
func isThere(k *core.Core, round int, h api.Hash) bool {
	k = k.Clone()
	k.Start()
	run(k, precommits(round, h, 0, 1, 2))
	return k.State().Decided && k.State().Decision == h
}

func TestProposeOfEachRound(t *testing.T) {
	rounds := append([]int{-2, -1, 0, 1, 2, 255, 256, 65536, 1<<20 - 1, 1 << 20, 1<<20 + 1, 1 << 21}, far...)
	for _, round := range rounds {
		may := round >= 0 && round <= 1<<20
		for _, k := range []*core.Core{fresh(t, conf, 0, 3), behind(t)} {
			e := proposed(round, -1, a)
			if round == 0 && k.State().Step == 1 {
				want(t, k, e, actPrevote(0, a))
			} else {
				wantNothing(t, k, e)
			}
			if isThere(k, round, a) != may {
				t.Errorf("round %d: it is there: %v", round, !may)
			}
		}
	}
}

func TestProposeOfEachValidRound(t *testing.T) {
	valids := append([]int{-3, -2, -1, 0, 1, 2, 5, 6, 7, 8, 9, 255, api.MaxRound - 2, api.MaxRound - 1, api.MaxRound, api.MaxRound + 1}, far...)
	for _, round := range []int{0, 1, 2, 7, 8, api.MaxRound} {
		for _, valid := range valids {
			may := valid >= -1 && valid < round
			for _, k := range []*core.Core{fresh(t, conf, 0, 3), behind(t, prevotes(round, b, 0, 1))} {
				proposed(round, valid, a).do(k)
				if isThere(k, round, a) != may {
					t.Errorf("round %d, valid %d: it is there: %v", round, valid, !may)
				}
			}
		}
	}
}

func TestProposeOfTheZeroHash(t *testing.T) {
	for _, round := range []int{0, 1, 5} {
		for _, ok := range []bool{false, true} {
			for _, valid := range []int{-1, 0} {
				k := behind(t)
				wantNothing(t, k, event{call: callPropose, round: round, valid: valid, ok: ok})
				// So it stands in the way of no other one, and no vote for none decides.
				k2 := k.Clone()
				if run(k2, precommits(round, zero, 0, 1, 2)); k2.State().Decided {
					t.Errorf("round %d: the zero hash is decided", round)
				}
				proposed(round, -1, a).do(k)
				if !isThere(k, round, a) {
					t.Errorf("round %d: the zero hash was taken", round)
				}
			}
		}
	}
	// Each byte of a hash makes it another one than zero.
	for i := range 32 {
		k, h := behind(t), api.Hash{}
		h[i] = 1
		want(t, k, proposed(0, -1, h), actPrevote(0, h))
	}
}

// Of a round the first proposal is taken, whatever the others are, and whether or not it is ok.
func TestProposeTwice(t *testing.T) {
	firsts := []event{proposed(2, -1, a), proposed(2, 0, a), proposed(2, 1, a), spoilt(2, -1, a), spoilt(2, 1, a)}
	for _, first := range firsts {
		for _, second := range append(firsts, proposed(2, -1, b), proposed(2, 1, b), spoilt(2, 0, b)) {
			for _, past := range [][]event{nil, in(start)} {
				k := fresh(t, conf, 0, 3)
				run(k, past)
				wantNothing(t, k, first, second)
				if isThere(k, 2, a) != first.ok || isThere(k, 2, b) {
					t.Errorf("%v, %v: the second one is there", first, second)
				}
			}
		}
	}
	k := behind(t, proposed(0, -1, a))
	wantNothing(t, k, proposed(0, -1, a), proposed(0, -1, b), spoilt(0, -1, b))
	// One that is refused is no first one.
	k = behind(t)
	wantNothing(t, k, proposed(2, 2, a), proposed(2, -2, a), proposed(2, 0, zero), proposed(2, 1, b))
	if isThere(k, 2, a) || !isThere(k, 2, b) {
		t.Error("what was refused stands in the way")
	}
}

// The proposal of one round stands in the way of no other round's.
func TestProposeOfManyRounds(t *testing.T) {
	k := fresh(t, conf, 0, 3)
	for round := range 300 {
		wantNothing(t, k, proposed(round, round/2-1, hashOf(round+1)))
	}
	for round := range 300 {
		if !isThere(k, round, hashOf(round+1)) {
			t.Errorf("round %d: it is not there", round)
		}
	}
	if isThere(k, 300, hashOf(301)) {
		t.Error("round 300: it is there")
	}
}

// A proposal that is not ok is prevoted against, is never locked, valid or decided.
func TestProposeThatIsNotOK(t *testing.T) {
	k := behind(t)
	want(t, k, spoilt(0, -1, a), actPrevote(0, zero))
	run(k, prevotes(0, a, 0))
	want(t, k, voted(api.Prevote, 0, 1, a), actTimer(2, 0))
	wantNothing(t, k, prevotes(0, a, 2)...)
	want(t, k, timeout(2, 0), actPrecommit(0, zero))
	wantNothing(t, k, precommits(0, a, 0)...)
	want(t, k, voted(api.Precommit, 0, 1, a), actTimer(3, 0))
	wantNothing(t, k, precommits(0, a, 2)...)
	wantState(t, "not ok", k, unlocked(0, 3))
}

// Behind a decision no proposal does anything.
func TestProposeOnceDecided(t *testing.T) {
	k := behind(t, proposed(0, -1, a), precommits(0, a, 0, 1, 2))
	wantNothing(t, k, proposed(0, -1, b), proposed(1, -1, b), spoilt(1, 0, b), proposed(2, -1, zero), proposed(-1, -1, b))
	run(k, precommits(1, b, 0, 1, 2))
	wantState(t, "decided", k, decided(unlocked(0, 2), a))
}
