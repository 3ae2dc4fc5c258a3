package core_test

import (
	"testing"

	"gavel/api"
)

// P14.3: each rule alone, several at once, one behind the other. Replica 3 of four, unless it is said otherwise: its own vote and those of two others are a quorum.

// Rule 1: the round that is decided is Round, or one behind it.
func TestDecide(t *testing.T) {
	k := behind(t, proposed(0, -1, a), precommits(0, a, 0, 1))
	want(t, k, voted(2, 0, 2, a), actDecide(0, a))
	wantState(t, "Round", k, decided(unlocked(0, 2), a))

	k = behind(t, precommits(0, a, 0, 1, 2))
	want(t, k, proposed(0, -1, a), actDecide(0, a))
	wantState(t, "a proposal behind its votes", k, decided(unlocked(0, 1), a))

	k = behind(t, proposed(1, 0, b), precommits(1, b, 0), timeout(3, 0), timeout(3, 1), timeout(3, 2), precommits(1, b, 1))
	want(t, k, voted(2, 1, 2, b), actDecide(1, b))
	wantState(t, "a round behind", k, decided(unlocked(3, 1), b))

	k = behind(t, precommits(1, b, 0, 1, 2), prevotes(8, c, 0, 1))
	want(t, k, proposed(1, -1, b), actDecide(1, b))
	wantState(t, "a proposal of a round behind", k, decided(unlocked(8, 1), b))
}

func TestDecideWhatHasNoQuorum(t *testing.T) {
	for _, l := range [][]event{
		precommits(0, a, 0, 1), in(precommits(0, a, 0, 1), precommits(0, b, 2)), in(precommits(0, a, 0, 1), precommits(0, zero, 2, 3)),
		in(precommits(0, a, 0, 1), precommits(1, a, 2)), in(precommits(0, a, 0, 1), prevotes(0, a, 2)), prevotes(0, a, 0, 1, 2), precommits(0, b, 0, 1, 2), precommits(0, zero, 0, 1, 2), precommits(1, a, 0, 1, 2),
	} {
		if k := behind(t, l, proposed(0, -1, a), l); k.State().Decided {
			t.Errorf("%v: %s", l, tellState(k.State()))
		}
		if k := behind(t, l, spoilt(0, -1, a), precommits(0, a, 0, 1, 2)); k.State().Decided {
			t.Errorf("%v: %s", l, tellState(k.State()))
		}
	}
	for f := 2; f <= 4; f++ {
		k := fresh(t, confOf(f), 1, 0)
		run(k, in(start, proposed(2, -1, a)))
		for replica := 1; replica <= 2*f; replica++ {
			voted(2, 2, replica, a).do(k)
		}
		if k.State().Decided {
			t.Errorf("F %d: decided by %d", f, 2*f)
		}
		want(t, k, voted(2, 2, 3*f, a), actDecide(2, a))
	}
}

// Of several the least round is decided, in whichever order they came. (That can be ahead of the start alone.)
func TestDecideTheLeastOfSeveral(t *testing.T) {
	rounds := []int{2, 4, 7}
	for _, order := range [][]int{{0, 1, 2}, {0, 2, 1}, {1, 0, 2}, {1, 2, 0}, {2, 0, 1}, {2, 1, 0}} {
		for votesFirst := range 2 {
			k := fresh(t, conf, 0, 3)
			wantNothing(t, k, in(spoilt(0, -1, c), precommits(0, c, 0, 1, 2), proposed(1, -1, c), precommits(1, c, 0, 1))...)
			for _, i := range order {
				votes := precommits(rounds[i], hashOf(rounds[i]), 0, 1, 2)
				if votesFirst == 1 {
					wantNothing(t, k, votes...)
				}
				wantNothing(t, k, proposed(rounds[i], -1, hashOf(rounds[i])))
				wantNothing(t, k, votes...)
			}
			want(t, k, start, actTimer(1, 0), actDecide(2, hashOf(2)))
			wantState(t, "the least", k, decided(unlocked(0, 1), hashOf(2)))
		}
	}
}

// Rule 2: the greatest round that F + 1 replicas, with votes of either kind, are heard of.
func TestFollow(t *testing.T) {
	k := behind(t, prevotes(9, a, 0), precommits(9, zero, 0), prevotes(12, b, 0))
	wantState(t, "one replica", k, unlocked(0, 1))
	want(t, k, voted(2, 5, 1, c), actTimer(1, 5))
	wantState(t, "two replicas", k, unlocked(5, 1))
	wantNothing(t, k, voted(1, 5, 1, c), voted(1, 4, 2, c), voted(1, 5, 2, c))
	want(t, k, voted(1, 8, 2, zero), actTimer(1, 8))
	want(t, k, voted(1, 10, 1, zero), actTimer(1, 10))
	want(t, k, voted(2, 100, 2, zero), actTimer(1, 12))
	want(t, k, voted(2, api.MaxRound, 0, zero), actTimer(1, 100))
	want(t, k, voted(2, api.MaxRound, 2, zero), actTimer(1, api.MaxRound))
	wantNothing(t, k, voted(1, api.MaxRound, 0, zero))

	// From each step, and into a round of its own.
	for step := 1; step <= 3; step++ {
		k := inStep(t, step)
		run(k, prevotes(3, a, 0))
		want(t, k, voted(1, 3, 2, b), actPropose(3, -1, zero))
		wantState(t, "entered", k, unlocked(3, 1))
	}

	// A vote in its own name is heard, too; one of Round or of one behind it is not.
	k = behind(t, timeout(3, 0), prevotes(1, a, 0, 1, 2), precommits(0, a, 0, 1, 2), prevotes(2, a, 0))
	wantState(t, "not heard", k, unlocked(1, 1))
	want(t, k, voted(1, 2, 3, a), actTimer(1, 2))
}

func TestFollowOfEachSize(t *testing.T) {
	for f := 1; f <= api.MaxF; f++ {
		k := fresh(t, confOf(f), 0, 3*f)
		k.Start()
		for replica := range f {
			wantNothing(t, k, voted(1+replica%2, 50-replica, replica, a))
		}
		run(k, prevotes(60, a, f))
		wantState(t, "F + 1 of them", k, unlocked(50-f+1, 1))
		// Where the one of these that is farthest behind moves on, so does Round.
		if f > 1 {
			run(k, prevotes(55, a, f-1))
			wantState(t, "it moves on", k, unlocked(50-f+2, 1))
		}
	}
}

// Rule 3: with a new proposal, where nothing is locked.
func TestAnswer(t *testing.T) {
	k := behind(t)
	want(t, k, proposed(0, -1, a), actPrevote(0, a))
	wantState(t, "ok", k, unlocked(0, 2))
	k = behind(t)
	want(t, k, spoilt(0, -1, a), actPrevote(0, zero))
	wantState(t, "not ok", k, unlocked(0, 2))
	k = behind(t, proposed(1, -1, b))
	wantState(t, "of another round", k, unlocked(0, 1))
	want(t, k, timeout(3, 0), actTimer(1, 1), actPrevote(1, b))
	for step := 2; step <= 3; step++ {
		k := inStep(t, step)
		wantNothing(t, k, proposed(1, -1, a))
	}
	// The proposer gets its own proposal back.
	k = fresh(t, conf, 2, 2)
	want(t, k, start, actPropose(0, -1, zero))
	want(t, k, proposed(0, -1, a), actPrevote(0, a))
}

// Rule 3: with a proposal that was valid in a round, as soon as a quorum's prevotes of that round for it are there.
func TestAnswerOfAValidRound(t *testing.T) {
	for _, ok := range []bool{true, false} {
		h := zero
		if ok {
			h = a
		}
		e := event{call: callPropose, round: 3, valid: 1, hash: a, ok: ok}
		k := behind(t, timeout(3, 0), timeout(3, 1), timeout(3, 2))
		// Those of other rounds, other kinds and other hashes do not count.
		run(k, in(prevotes(0, a, 0, 1, 2), prevotes(2, a, 0, 1, 2), precommits(1, a, 0, 1, 2), prevotes(1, b, 3), prevotes(3, a, 0)))
		wantNothing(t, k, e)
		wantNothing(t, k, prevotes(1, a, 0, 1)...)
		want(t, k, voted(1, 1, 2, a), actPrevote(3, h))
		wantState(t, "the votes come behind", k, unlocked(3, 2))

		k = behind(t, prevotes(1, a, 0, 1, 2), timeout(3, 1), timeout(3, 2))
		want(t, k, e, actPrevote(3, h))
		wantState(t, "the proposal comes behind", k, unlocked(3, 2))

		k = behind(t, prevotes(1, a, 0, 1, 2), e, timeout(3, 1))
		want(t, k, timeout(3, 2), actPropose(3, -1, zero), actPrevote(3, h))
		wantState(t, "the round comes behind", k, unlocked(3, 2))
	}
}

// Rule 4: in the step prevote it locks and precommits; in the step precommit it only holds that to be valid; in the step propose nothing.
func TestLock(t *testing.T) {
	k := behind(t, proposed(0, -1, a), prevotes(0, a, 0))
	wantState(t, "two of three", k, unlocked(0, 2))
	want(t, k, voted(1, 0, 1, a), actPrecommit(0, a))
	wantState(t, "step prevote", k, locked(0, 3, 0, a))

	k = inStep(t, 3)
	wantNothing(t, k, proposed(1, -1, a))
	wantNothing(t, k, voted(1, 1, 0, a), voted(1, 1, 1, a))
	want(t, k, voted(1, 1, 2, a))
	s := unlocked(1, 3)
	s.Valid, s.ValidRound = a, 1
	wantState(t, "step precommit", k, s)

	k = behind(t, timeout(3, 0), prevotes(1, a, 0, 1, 2), proposed(1, 0, a))
	wantState(t, "step propose", k, unlocked(1, 1))
	want(t, k, timeout(1, 1), actPrevote(1, zero), actPrecommit(1, a))
	wantState(t, "step prevote then", k, locked(1, 3, 1, a))
}

func TestLockWithoutOneOfItsGrounds(t *testing.T) {
	for _, l := range [][]event{
		prevotes(1, a, 0, 1, 2), in(prevotes(1, a, 0, 1), proposed(1, -1, a)), in(prevotes(1, b, 0, 1, 2), proposed(1, -1, a)), in(prevotes(1, a, 0, 1, 2), spoilt(1, -1, a)),
		in(prevotes(0, a, 0, 1, 2), proposed(1, -1, a)), in(precommits(1, a, 0, 1), proposed(1, -1, a)), in(prevotes(1, a, 0, 1, 2), proposed(0, -1, a)), in(prevotes(1, zero, 0, 1), proposed(1, -1, a)),
	} {
		for step := 2; step <= 3; step++ {
			k := inStep(t, step)
			run(k, l)
			if s := k.State(); s.LockedRound != -1 || s.ValidRound != -1 || s.Locked != zero || s.Valid != zero {
				t.Errorf("step %d, %v: %s", step, l, tellState(s))
			}
		}
	}
}

// Rule 5: a quorum's prevotes for none.
func TestGiveUp(t *testing.T) {
	k := behind(t, timeout(1, 0), prevotes(0, zero, 0))
	want(t, k, voted(1, 0, 1, zero), actPrecommit(0, zero))
	wantState(t, "step prevote", k, unlocked(0, 3))
	k = behind(t, proposed(0, -1, a), prevotes(0, zero, 0))
	want(t, k, voted(1, 0, 1, zero), actTimer(2, 0))
	want(t, k, voted(1, 0, 2, zero), actPrecommit(0, zero))
	k = behind(t, prevotes(0, zero, 0, 1))
	wantNothing(t, k, voted(1, 0, 2, zero))
	want(t, k, timeout(1, 0), actPrevote(0, zero), actPrecommit(0, zero))
	k = inStep(t, 3)
	wantNothing(t, k, voted(1, 1, 0, zero), voted(1, 1, 1, zero), voted(1, 1, 2, zero))
	k = inStep(t, 2)
	wantNothing(t, k, prevotes(0, zero, 0, 1, 2)...)
}

// Rule 6: a quorum's prevotes in all, in the step prevote, once a round.
func TestAwaitPrevotes(t *testing.T) {
	k := behind(t, proposed(0, -1, a), prevotes(0, b, 0))
	want(t, k, voted(1, 0, 1, zero), actTimer(api.TimePrevote, 0))
	wantState(t, "Round 0", k, unlocked(0, 2))
	wantNothing(t, k, voted(1, 0, 2, c), voted(2, 0, 0, a), proposed(1, -1, b))
	want(t, k, timeout(3, 0), actTimer(1, 1), actPrevote(1, b))
	wantNothing(t, k, voted(1, 1, 0, zero))
	want(t, k, voted(1, 1, 1, c), actTimer(api.TimePrevote, 1))
	wantNothing(t, k, voted(1, 1, 2, c))

	k = behind(t, prevotes(0, b, 0, 1), prevotes(0, a, 2))
	want(t, k, timeout(1, 0), actPrevote(0, zero), actTimer(api.TimePrevote, 0))
	for _, step := range []int{1, 3} {
		k := inStep(t, step)
		wantNothing(t, k, voted(1, 1, 0, a), voted(1, 1, 1, b), voted(1, 1, 2, c))
	}
}

// Rule 7: a quorum's precommits in all, in any step, once a round.
func TestAwaitPrecommits(t *testing.T) {
	for step := 1; step <= 3; step++ {
		k := inStep(t, step)
		wantNothing(t, k, precommits(1, a, 0)...)
		if step < 3 {
			wantNothing(t, k, precommits(1, b, 1)...)
			want(t, k, voted(2, 1, 2, zero), actTimer(api.TimePrecommit, 1))
		} else {
			want(t, k, voted(2, 1, 1, b), actTimer(api.TimePrecommit, 1))
			wantNothing(t, k, voted(2, 1, 2, zero))
		}
		wantState(t, "Round 1", k, unlocked(1, step))
		wantNothing(t, k, voted(1, 1, 0, a), voted(2, 1, 3, c), voted(2, 0, 0, a), voted(2, 0, 1, a), voted(2, 0, 2, a))
		run(k, in(timeout(3, 1), precommits(2, a, 0, 1)))
		want(t, k, voted(2, 2, 2, b), actTimer(api.TimePrecommit, 2))
	}
}

// Two rules that hold at once: the first one comes first, and the other one only where it holds still.
func TestTwoRulesAtOnce(t *testing.T) {
	// 1 ahead of 2, 3, 4 and 7.
	k := fresh(t, conf, 0, 3)
	run(k, in(proposed(0, -1, a), precommits(0, a, 0, 1, 2), prevotes(5, b, 0, 1)))
	want(t, k, start, actTimer(1, 0), actDecide(0, a))
	k = behind(t, precommits(0, a, 0, 1, 2))
	want(t, k, proposed(0, -1, a), actDecide(0, a))
	k = behind(t, timeout(1, 0), prevotes(0, a, 0, 1, 2), precommits(0, a, 0, 1, 2))
	want(t, k, proposed(0, -1, a), actDecide(0, a))
	wantState(t, "nothing is locked", k, decided(unlocked(0, 2), a))
	k = behind(t, proposed(0, -1, a), precommits(0, a, 0, 1))
	want(t, k, voted(2, 0, 2, a), actDecide(0, a))
	// 2 ahead of 3 and 7.
	k = fresh(t, conf, 0, 3)
	run(k, in(proposed(0, -1, a), precommits(0, b, 0, 1, 2), prevotes(5, b, 0, 1)))
	want(t, k, start, actTimer(1, 0), actTimer(1, 5))
	// 3 ahead of 7.
	k = fresh(t, conf, 0, 3)
	run(k, in(proposed(0, -1, a), precommits(0, b, 0, 1, 2)))
	want(t, k, start, actTimer(1, 0), actPrevote(0, a), actTimer(3, 0))
	// 4 ahead of 6 and 7, which is left for the round.
	k = behind(t, proposed(0, -1, a), prevotes(0, a, 0), precommits(0, b, 0, 1))
	want(t, k, voted(1, 0, 1, a), actPrecommit(0, a), actTimer(3, 0))
	// 5 ahead of 6 and 7.
	k = behind(t, timeout(1, 0), prevotes(0, zero, 0), precommits(0, b, 0, 1))
	want(t, k, voted(1, 0, 1, zero), actPrecommit(0, zero), actTimer(3, 0))
	// 6 ahead of 7.
	k = fresh(t, conf, 0, 3)
	run(k, in(proposed(0, -1, a), prevotes(0, b, 0, 1), precommits(0, b, 0, 1, 2)))
	want(t, k, start, actTimer(1, 0), actPrevote(0, a), actTimer(2, 0), actTimer(3, 0))
}

// Chains of rules in one call.
func TestChains(t *testing.T) {
	// 2, 3, 4, 1.
	k := fresh(t, conf, 0, 3)
	run(k, in(prevotes(0, a, 0, 1, 2), proposed(1, 0, a), prevotes(1, a, 0, 1), precommits(1, a, 0, 1)))
	want(t, k, start, actTimer(1, 0), actTimer(1, 1), actPrevote(1, a), actPrecommit(1, a), actDecide(1, a))
	wantState(t, "2, 3, 4, 1", k, decided(locked(1, 3, 1, a), a))
	// 2, 3, 5, 7, by one vote.
	k = behind(t, spoilt(4, -1, a), prevotes(4, zero, 0), precommits(4, zero, 0), prevotes(3, b, 1), precommits(3, b, 2))
	wantState(t, "heard", k, unlocked(3, 1))
	want(t, k, voted(1, 4, 1, zero), actTimer(1, 4), actPrevote(4, zero), actPrecommit(4, zero))
	want(t, k, voted(2, 4, 2, a), actTimer(3, 4))
	// 3, 6, by a vote of another round; then 4 behind the timer.
	k = behind(t, timeout(3, 0), proposed(1, 0, a), prevotes(0, a, 0, 1), prevotes(1, b, 0), prevotes(1, a, 1))
	want(t, k, voted(1, 0, 2, a), actPrevote(1, a), actTimer(2, 1))
	want(t, k, voted(1, 1, 2, a), actPrecommit(1, a))
	// 2 and 2 again: a round of its own, and the start of it.
	k = fresh(t, conf, 0, 3)
	run(k, in(prevotes(3, a, 0, 1), proposed(3, -1, b), prevotes(3, b, 2)))
	want(t, k, start, actTimer(1, 0), actPropose(3, -1, zero), actPrevote(3, b), actTimer(2, 3))
}

// What comes once a round comes again in the next one that is entered, also where others were heard.
func TestOnceARoundAnew(t *testing.T) {
	k := behind(t)
	for _, round := range []int{0, 1, 4} {
		if round > 0 {
			run(k, prevotes(round, b, 0, 1))
		} else {
			wantNothing(t, k, prevotes(0, b, 0, 1)...)
		}
		want(t, k, proposed(round, -1, a), actPrevote(round, a), actTimer(2, round))
		want(t, k, timeout(2, round), actPrecommit(round, zero))
		wantNothing(t, k, voted(2, round, 0, a))
		want(t, k, voted(2, round, 1, b), actTimer(3, round))
		wantNothing(t, k, voted(2, round, 2, c), voted(1, round, 2, c))
	}
	// Rule 4, too: what is locked and valid is of the later round then.
	k = behind(t)
	for _, round := range []int{0, 1, 4} {
		run(k, in(prevotes(round, a, 0, 1), proposed(round, -1, a)))
		wantState(t, "locked anew", k, locked(round, 3, round, a))
		wantNothing(t, k, voted(1, round, 2, a))
	}
}

// Nothing comes behind a decision: not in that call, and not in a later one.
func TestNothingBehindADecision(t *testing.T) {
	k := behind(t, proposed(0, -1, a), prevotes(0, a, 0, 1), precommits(0, a, 0))
	want(t, k, voted(2, 0, 1, a), actDecide(0, a))
	s := decided(locked(0, 3, 0, a), a)
	wantState(t, "decided", k, s)
	for _, l := range pool() {
		wantNothing(t, k, l...)
	}
	wantNothing(t, k, in(prevotes(9, b, 0, 1, 2), proposed(9, 3, b), precommits(9, b, 0, 1, 2), start)...)
	wantState(t, "decided", k, s)
}
