package core_test

import (
	"testing"

	"gavel/api"
	"gavel/core"
)

// P14.1: Start, and what entering a round does

func TestStartOfEachReplica(t *testing.T) {
	for f := 1; f <= api.MaxF; f++ {
		for replica := range 3*f + 1 {
			k := fresh(t, confOf(f), 0, replica)
			if replica == 0 {
				want(t, k, start, actPropose(0, -1, zero))
			} else {
				want(t, k, start, actTimer(api.TimePropose, 0))
			}
			wantState(t, "started", k, unlocked(0, 1))
		}
	}
}

// The epoch tells who proposes in round 0, and each round another one does.
func TestStartOfEachEpoch(t *testing.T) {
	for _, epoch := range []int{0, 1, 2, 3, 4, 5, 6, 7, api.MaxEpoch - 1, api.MaxEpoch} {
		for replica := range 4 {
			k := fresh(t, conf, epoch, replica)
			for round := range 9 {
				e := timeout(api.TimePrecommit, round-1)
				if round == 0 {
					e = start
				}
				if (epoch+round-replica)%4 == 0 {
					want(t, k, e, actPropose(round, -1, zero))
				} else {
					want(t, k, e, actTimer(api.TimePropose, round))
				}
				wantState(t, "entered", k, unlocked(round, 1))
			}
		}
	}
}

func TestStartTwice(t *testing.T) {
	for replica := range 4 {
		k := fresh(t, conf, 0, replica)
		k.Start()
		wantNothing(t, k, start, start)
		run(k, in(proposed(0, -1, a), start))
		wantNothing(t, k, start)
		run(k, prevotes(0, a, 0, 1, 2))
		wantNothing(t, k, start)
		run(k, in(timeout(api.TimePrecommit, 0)))
		wantNothing(t, k, start)
		run(k, precommits(0, a, 0, 1, 2))
		wantNothing(t, k, start)
		wantState(t, "decided", k, decided(locked(1, 1, 0, a), a))
	}
}

// All that came ahead of the start is there when it starts; none of it was told.
func TestStartSettlesWhatCameAhead(t *testing.T) {
	for _, x := range []struct {
		name string
		past []event
		want []core.Act
		then core.State
	}{
		{"a proposal", in(proposed(0, -1, a)), acts(actTimer(1, 0), actPrevote(0, a)), unlocked(0, 2)},
		{"one that is not ok", in(spoilt(0, -1, a)), acts(actTimer(1, 0), actPrevote(0, zero)), unlocked(0, 2)},
		{"a proposal of another round", in(proposed(1, -1, a)), acts(actTimer(1, 0)), unlocked(0, 1)},
		{"prevotes", prevotes(0, a, 0, 1, 2), acts(actTimer(1, 0)), unlocked(0, 1)},
		{"prevotes and their proposal", in(prevotes(0, a, 0, 1, 2), proposed(0, -1, a)), acts(actTimer(1, 0), actPrevote(0, a), actPrecommit(0, a)), locked(0, 3, 0, a)},
		{"two prevotes and their proposal", in(proposed(0, -1, a), prevotes(0, a, 0, 1)), acts(actTimer(1, 0), actPrevote(0, a), actPrecommit(0, a)), locked(0, 3, 0, a)},
		{"prevotes of any hash and a proposal", in(proposed(0, -1, a), prevotes(0, b, 0, 1)), acts(actTimer(1, 0), actPrevote(0, a), actTimer(2, 0)), unlocked(0, 2)},
		{"precommits of any hash", in(precommits(0, a, 0, 1), precommits(0, zero, 2)), acts(actTimer(1, 0), actTimer(3, 0)), unlocked(0, 1)},
		{"what decides", in(precommits(0, a, 0, 1, 2), proposed(0, -1, a)), acts(actTimer(1, 0), actDecide(0, a)), decided(unlocked(0, 1), a)},
		{"what decides in a later round", in(precommits(7, a, 0, 1, 2), proposed(7, 3, a)), acts(actTimer(1, 0), actDecide(7, a)), decided(unlocked(0, 1), a)},
		{"what was heard", in(prevotes(5, a, 0), precommits(6, a, 1)), acts(actTimer(1, 0), actTimer(1, 5)), unlocked(5, 1)},
		{"what was heard of a round of its own", prevotes(7, a, 0, 1), acts(actTimer(1, 0), actPropose(7, -1, zero)), unlocked(7, 1)},
		{"wrong ones", in(proposed(0, 0, a), proposed(0, -1, zero), voted(3, 0, 0, a), timeout(1, 0), timeout(2, 0), timeout(3, 0)), acts(actTimer(1, 0)), unlocked(0, 1)},
	} {
		k := fresh(t, conf, 0, 3)
		wantNothing(t, k, x.past...)
		wantState(t, x.name, k, unlocked(0, 0))
		want(t, k, start, x.want...)
		wantState(t, x.name, k, x.then)
	}
}

// A proposer proposes what is valid, with its round, and else a new one.
func TestEnterProposesWhatIsValid(t *testing.T) {
	k := behind(t, proposed(1, -1, a), timeout(3, 0), prevotes(1, a, 0, 1))
	wantState(t, "locked", k, locked(1, 3, 1, a))
	want(t, k, timeout(3, 1), actTimer(1, 2))
	want(t, k, timeout(3, 2), actPropose(3, 1, a))
	wantState(t, "entered", k, locked(3, 1, 1, a))

	k = behind(t, timeout(3, 0), timeout(1, 1), timeout(2, 1), proposed(1, -1, a), prevotes(1, a, 0, 1, 2))
	s := unlocked(1, 3)
	s.Valid, s.ValidRound = a, 1
	wantState(t, "valid, but not locked", k, s)
	want(t, k, voted(api.Prevote, 7, 0, b))
	want(t, k, voted(api.Prevote, 7, 1, b), actPropose(7, 1, a))
}

// There is no round above MaxRound.
func TestEnterMaxRound(t *testing.T) {
	for replica := range 4 {
		k := fresh(t, conf, 0, replica)
		k.Start()
		run(k, prevotes(api.MaxRound-1, a, 1, 2))
		wantState(t, "the round ahead of the last", k, unlocked(api.MaxRound-1, 1))
		last := actTimer(1, api.MaxRound)
		if replica == 0 {
			last = actPropose(api.MaxRound, -1, zero)
		}
		want(t, k, timeout(3, api.MaxRound-1), last)
		wantState(t, "the last round", k, unlocked(api.MaxRound, 1))
		wantNothing(t, k, timeout(3, api.MaxRound), timeout(3, api.MaxRound+1))
		want(t, k, timeout(1, api.MaxRound), actPrevote(api.MaxRound, zero))
		wantNothing(t, k, timeout(3, api.MaxRound))
		want(t, k, timeout(2, api.MaxRound), actPrecommit(api.MaxRound, zero))
		wantNothing(t, k, timeout(3, api.MaxRound), timeout(3, api.MaxRound))
	}
	k := behind(t, prevotes(api.MaxRound, a, 0))
	want(t, k, voted(api.Precommit, api.MaxRound, 1, a), actTimer(1, api.MaxRound))
	run(k, in(proposed(api.MaxRound, api.MaxRound-1, a)))
	wantState(t, "the last round", k, unlocked(api.MaxRound, 1))
	run(k, in(proposed(5, -1, a), precommits(5, a, 0, 1, 2)))
	wantState(t, "decided in the last round", k, decided(unlocked(api.MaxRound, 1), a))
}
