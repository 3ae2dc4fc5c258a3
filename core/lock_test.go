package core_test

import (
	"testing"

	"gavel/api"
	"gavel/core"
)

// P14.3: what is locked, and what it gives way to

// lockedIn is a core of replica 3 that has locked a in that round, and is in the next one.
func lockedIn(t *testing.T, round int) *core.Core {
	t.Helper()
	k := behind(t)
	for r := range round {
		run(k, in(timeout(3, r)))
	}
	run(k, in(proposed(round, -1, a), prevotes(round, a, 0, 1), timeout(3, round)))
	wantState(t, "locked", k, locked(round+1, 1, round, a))
	return k
}

// A new proposal is prevoted for, if it is what is locked; against, if it is another one.
func TestLockAndANewProposal(t *testing.T) {
	for _, x := range []struct {
		e    event
		want api.Hash
	}{{proposed(3, -1, a), a}, {proposed(3, -1, b), zero}, {spoilt(3, -1, a), zero}, {spoilt(3, -1, b), zero}} {
		k := lockedIn(t, 2)
		want(t, k, x.e, actPrevote(3, x.want))
		wantState(t, x.e.String(), k, locked(3, 2, 2, a))
	}
}

// One that was valid in a round behind the lock, or in the lock's own, opens it; one of a round ahead of the lock does not.
func TestLockAndAValidRound(t *testing.T) {
	for valid := range 4 {
		for _, x := range []struct {
			h    api.Hash
			ok   bool
			want bool
		}{{a, true, true}, {b, true, valid > 2}, {a, false, false}, {b, false, false}} {
			if valid == 2 && x.h == b {
				continue // no two hashes have a quorum in one round
			}
			k := lockedIn(t, 2)
			run(k, in(timeout(3, 3)))
			if valid != 2 || x.h != a {
				wantNothing(t, k, prevotes(valid, x.h, 0, 1, 2)...)
			}
			h := zero
			if x.want {
				h = x.h
			}
			want(t, k, event{call: callPropose, round: 4, valid: valid, hash: x.h, ok: x.ok}, actPrevote(4, h))
			wantState(t, "prevoted", k, locked(4, 2, 2, a))
		}
	}
}

// Without a quorum of the valid round's prevotes nothing is prevoted at all, also of what is locked.
func TestLockAndAValidRoundWithoutItsVotes(t *testing.T) {
	for _, h := range []api.Hash{a, b} {
		k := lockedIn(t, 0)
		run(k, in(timeout(3, 1), prevotes(1, h, 0, 1)))
		wantNothing(t, k, proposed(2, 1, h))
		want(t, k, voted(1, 1, 2, h), actPrevote(2, h))
	}
}

// What gives way stays locked, till another one is locked.
func TestLockIsTakenOver(t *testing.T) {
	k := lockedIn(t, 0)
	want(t, k, proposed(1, -1, b), actPrevote(1, zero))
	run(k, prevotes(1, b, 0, 1))
	want(t, k, voted(1, 1, 2, b), actPrecommit(1, b))
	wantState(t, "a quorum prevoted for another one", k, locked(1, 3, 1, b))
	run(k, in(timeout(3, 1), proposed(2, -1, a)))
	wantState(t, "the first one is nothing any more", k, locked(2, 2, 1, b))
	run(k, in(prevotes(2, a, 0, 1), timeout(3, 2)))
	wantState(t, "no quorum: its own prevote was for none", k, locked(3, 1, 1, b))
}

// validAhead is a core of replica 3 that has locked a in round 0, holds b to be valid in round 1, as it precommitted none there, and is in round 2.
func validAhead(t *testing.T) (*core.Core, core.State) {
	t.Helper()
	k := lockedIn(t, 0)
	run(k, in(proposed(1, -1, b), prevotes(1, b, 0, 1)))
	want(t, k, timeout(2, 1), actPrecommit(1, zero))
	wantNothing(t, k, voted(2, 1, 0, zero))
	want(t, k, voted(1, 1, 2, b))
	s := locked(1, 3, 0, a)
	s.Valid, s.ValidRound = b, 1
	wantState(t, "valid", k, s)
	want(t, k, timeout(3, 1), actTimer(1, 2))
	s.Round, s.Step = 2, 1
	wantState(t, "entered", k, s)
	return k, s
}

// What is valid moves on without the lock; a new proposal is held against the lock alone.
func TestValidWithoutTheLock(t *testing.T) {
	for _, x := range []struct {
		e    event
		want api.Hash
	}{{proposed(2, -1, a), a}, {proposed(2, -1, b), zero}, {proposed(2, -1, c), zero}, {proposed(2, 1, b), b}, {proposed(2, 0, a), a}, {spoilt(2, 1, b), zero}} {
		k, s := validAhead(t)
		want(t, k, x.e, actPrevote(2, x.want))
		s.Step = 2
		wantState(t, x.e.String(), k, s)
	}
	// It proposes what is valid, not what is locked; that is prevoted for, as its valid round is behind the lock.
	k, s := validAhead(t)
	want(t, k, timeout(3, 2), actPropose(3, 1, b))
	want(t, k, proposed(3, 1, b), actPrevote(3, b))
	s.Round, s.Step = 3, 2
	wantState(t, "prevoted", k, s)
}

// Giving up a round leaves the lock and what is valid as they are.
func TestLockIsKeptThroughRounds(t *testing.T) {
	k := lockedIn(t, 0)
	for round := 1; round < 9; round++ {
		run(k, in(timeout(1, round), prevotes(round, zero, 0, 1)))
		wantState(t, "given up", k, locked(round, 3, 0, a))
		run(k, in(timeout(3, round)))
		wantState(t, "entered", k, locked(round+1, 1, 0, a))
	}
	want(t, k, proposed(9, 5, b))
	want(t, k, proposed(10, -1, b))
	want(t, k, timeout(3, 9), actTimer(1, 10), actPrevote(10, zero))
	want(t, k, timeout(3, 10), actPropose(11, 0, a))
}
