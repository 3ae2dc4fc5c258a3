package core_test

import (
	"testing"

	"gavel/api"
	"gavel/core"
)

// P14.2: Vote, and the core's own votes

// What the tally refuses is nothing: each such vote is one too few.
func TestVoteThatTheTallyRefuses(t *testing.T) {
	wrong := []event{
		voted(0, 0, 2, a), voted(3, 0, 2, a), voted(-1, 0, 2, a), voted(4, 0, 2, a),
		voted(api.Precommit, -1, 2, a), voted(api.Precommit, api.MaxRound+1, 2, a),
		voted(api.Precommit, 0, -1, a), voted(api.Precommit, 0, 4, a), voted(api.Precommit, 0, 64, a), voted(api.Precommit, 0, api.ClientBase, a),
		voted(api.Precommit, 0, 0, a), voted(api.Precommit, 0, 1, a), voted(api.Precommit, 0, 1, b), voted(api.Precommit, 0, 0, zero),
	}
	for _, n := range far {
		wrong = append(wrong, voted(n, 0, 2, a), voted(api.Precommit, n, 2, a), voted(api.Precommit, 0, n, a))
	}
	k := behind(t, proposed(0, -1, a), precommits(0, a, 0, 1))
	wantNothing(t, k, wrong...)
	want(t, k, voted(api.Precommit, 0, 2, a), actDecide(0, a))
}

// What is refused is not heard either.
func TestVoteThatIsRefusedIsNotHeard(t *testing.T) {
	k := behind(t, prevotes(5, a, 1))
	wantNothing(t, k, voted(1, 5, 1, a), voted(1, 5, 1, b), voted(3, 5, 2, a), voted(0, 5, 2, a), voted(1, 5, 4, a), voted(1, 5, -1, a), voted(1, api.MaxRound+1, 2, a), voted(2, 5, 1, a))
	want(t, k, voted(2, 5, 2, zero), actTimer(1, 5))
}

// Each vote that is taken counts once, of each replica, kind and round.
func TestVoteOfEachReplica(t *testing.T) {
	for f := 1; f <= 4; f++ {
		n, quorum := 3*f+1, 2*f+1
		k := fresh(t, confOf(f), 0, n-1)
		run(k, in(start, proposed(0, -1, a), timeout(1, 0)))
		for replica := range quorum - 2 {
			wantNothing(t, k, voted(1, 0, replica, a), voted(1, 0, replica, a))
		}
		want(t, k, voted(1, 0, quorum-2, a), actPrecommit(0, a))
		for replica := range quorum - 2 {
			wantNothing(t, k, voted(2, 0, replica, a), voted(2, 0, replica, b))
		}
		want(t, k, voted(2, 0, quorum-2, a), actDecide(0, a))
	}
}

// Its own votes are told and counted: two of others make a quorum with each.
func TestVoteOfItsOwn(t *testing.T) {
	k := behind(t, prevotes(0, a, 0, 1), precommits(0, a, 0, 1))
	want(t, k, proposed(0, -1, a), actPrevote(0, a), actPrecommit(0, a), actDecide(0, a))
	wantState(t, "decided", k, decided(locked(0, 3, 0, a), a))

	// Those for none, too.
	k = behind(t, prevotes(0, zero, 0, 1), precommits(0, b, 0, 1))
	want(t, k, timeout(1, 0), actPrevote(0, zero), actPrecommit(0, zero), actTimer(3, 0))

	// So one that comes later in its name is refused.
	k = behind(t, timeout(1, 0), prevotes(0, zero, 0))
	wantNothing(t, k, voted(1, 0, 3, zero), voted(1, 0, 3, a))
	want(t, k, voted(1, 0, 1, zero), actPrecommit(0, zero))
	wantNothing(t, k, voted(2, 0, 3, zero), voted(2, 0, 0, zero))
	want(t, k, voted(2, 0, 1, zero), actTimer(3, 0))
}

// One that came earlier in its name stays in the tally, and its own is told all the same.
func TestVoteInItsName(t *testing.T) {
	k := behind(t, prevotes(0, b, 3), precommits(0, b, 3))
	want(t, k, proposed(0, -1, a), actPrevote(0, a))
	wantNothing(t, k, voted(1, 0, 0, a))
	want(t, k, voted(1, 0, 1, a), actTimer(2, 0))
	want(t, k, voted(1, 0, 2, a), actPrecommit(0, a))
	wantNothing(t, k, voted(2, 0, 0, a))
	want(t, k, voted(2, 0, 1, a), actTimer(3, 0))
	want(t, k, voted(2, 0, 2, a), actDecide(0, a))
}

// Votes of rounds behind Round, and of rounds ahead of it, are taken, whatever the step.
func TestVoteOfAnotherRound(t *testing.T) {
	for _, past := range [][]event{nil, in(timeout(1, 2)), in(timeout(1, 2), timeout(2, 2))} {
		for _, round := range []int{0, 1, 3, 9, api.MaxRound} {
			k := behind(t, timeout(3, 0), timeout(3, 1), proposed(round, -1, a), past)
			s := k.State()
			wantNothing(t, k, voted(2, round, 0, a))
			if round < 2 {
				wantNothing(t, k, voted(2, round, 1, a))
			} else {
				got := voted(2, round, 1, a).do(k)
				s = unlocked(round, 2)
				if len(got) != 2 || got[1] != actPrevote(round, a) {
					t.Errorf("round %d: %s", round, tell(got))
				}
			}
			want(t, k, voted(2, round, 2, a), actDecide(round, a))
			wantState(t, "decided", k, decided(s, a))
		}
	}
}

func TestVoteOnceDecided(t *testing.T) {
	k := behind(t, proposed(1, -1, b), proposed(0, -1, a), precommits(1, b, 0), precommits(0, a, 0, 1, 2))
	s := decided(unlocked(0, 2), a)
	wantState(t, "decided", k, s)
	wantNothing(t, k, in(prevotes(0, a, 0, 1, 2), prevotes(0, zero, 3), precommits(0, zero, 3), precommits(1, b, 1, 2, 3), prevotes(9, b, 0, 1, 2, 3), voted(3, 0, 0, a))...)
	wantState(t, "decided", k, s)
}

// Ahead of the start votes are taken, and nothing is told.
func TestVoteAheadOfTheStart(t *testing.T) {
	var k machine = fresh(t, conf, 0, 3)
	wantNothing(t, k, in(prevotes(0, a, 0, 1, 2), proposed(0, -1, a), precommits(0, b, 0, 1, 2), prevotes(4, b, 1), precommits(9, b, 1))...)
	wantState(t, "not started", k, core.State{LockedRound: -1, ValidRound: -1})
	want(t, k, start, actTimer(1, 0), actPrevote(0, a), actPrecommit(0, a), actTimer(3, 0))
}
