package core_test

import (
	"testing"

	"gavel/api"
	"gavel/core"
)

// P14.2: Timeout

// inStep is a core of replica 3 in round 1, in that step: nothing is locked.
func inStep(t *testing.T, step int) *core.Core {
	t.Helper()
	k := behind(t, timeout(3, 0), in(timeout(1, 1), timeout(2, 1))[:step-1])
	wantState(t, "in step", k, unlocked(1, step))
	return k
}

func TestTimeoutInEachStep(t *testing.T) {
	for step := 1; step <= 3; step++ {
		for kind := -3; kind < 20; kind++ {
			k := inStep(t, step)
			switch {
			case kind == api.TimePropose && step == 1:
				want(t, k, timeout(kind, 1), actPrevote(1, zero))
				wantState(t, "propose", k, unlocked(1, 2))
			case kind == api.TimePrevote && step == 2:
				want(t, k, timeout(kind, 1), actPrecommit(1, zero))
				wantState(t, "prevote", k, unlocked(1, 3))
			case kind == api.TimePrecommit:
				want(t, k, timeout(kind, 1), actTimer(api.TimePropose, 2))
				wantState(t, "precommit", k, unlocked(2, 1))
			default:
				wantNothing(t, k, timeout(kind, 1))
			}
		}
		k := inStep(t, step)
		for _, kind := range far {
			wantNothing(t, k, timeout(kind, 1))
		}
	}
}

func TestTimeoutOfAnotherRound(t *testing.T) {
	for step := 1; step <= 3; step++ {
		k := inStep(t, step)
		for _, round := range append([]int{-1, 0, 2, 3, api.MaxRound - 1, api.MaxRound, api.MaxRound + 1}, far...) {
			for kind := range 5 {
				wantNothing(t, k, timeout(kind, round))
			}
		}
	}
}

func TestTimeoutAheadOfTheStart(t *testing.T) {
	k := fresh(t, conf, 0, 3)
	for kind := range 5 {
		for _, round := range []int{-1, 0, 1} {
			wantNothing(t, k, timeout(kind, round))
		}
	}
	want(t, k, start, actTimer(api.TimePropose, 0))
	wantState(t, "started", k, unlocked(0, 1))
}

func TestTimeoutOnceDecided(t *testing.T) {
	for step := 1; step <= 3; step++ {
		k := inStep(t, step)
		run(k, in(proposed(0, -1, a), precommits(0, a, 0, 1, 2)))
		wantState(t, "decided", k, decided(unlocked(1, step), a))
		for kind := range 5 {
			wantNothing(t, k, timeout(kind, 0), timeout(kind, 1), timeout(kind, 2))
		}
	}
}

// A vote for none goes out whatever proposal comes behind it; what was locked stays so.
func TestTimeoutKeepsWhatIsLocked(t *testing.T) {
	k := behind(t, proposed(0, -1, a), prevotes(0, a, 0, 1), timeout(3, 0))
	wantState(t, "entered", k, locked(1, 1, 0, a))
	want(t, k, timeout(1, 1), actPrevote(1, zero))
	wantNothing(t, k, proposed(1, 0, a), timeout(1, 1))
	want(t, k, timeout(2, 1), actPrecommit(1, zero))
	wantNothing(t, k, timeout(1, 1), timeout(2, 1))
	want(t, k, timeout(3, 1), actTimer(1, 2))
	wantState(t, "entered", k, locked(2, 1, 0, a))
}

// Behind what it does itself, a timeout settles.
func TestTimeoutSettles(t *testing.T) {
	k := behind(t, prevotes(0, zero, 0, 1), precommits(0, zero, 0, 1))
	want(t, k, timeout(1, 0), actPrevote(0, zero), actPrecommit(0, zero), actTimer(3, 0))

	k = behind(t, prevotes(0, a, 0), prevotes(0, b, 1))
	want(t, k, timeout(1, 0), actPrevote(0, zero), actTimer(2, 0))

	k = behind(t, timeout(1, 0), precommits(0, a, 0, 1))
	want(t, k, timeout(2, 0), actPrecommit(0, zero), actTimer(3, 0))

	k = behind(t, proposed(1, -1, b), prevotes(1, b, 0))
	want(t, k, timeout(3, 0), actTimer(1, 1), actPrevote(1, b))

	// Its own vote is heard, so it follows nobody; the votes of two others it follows at once.
	k = behind(t, timeout(3, 0), prevotes(1, a, 0))
	want(t, k, timeout(3, 1), actTimer(1, 2))
	k = behind(t, proposed(1, -1, b), prevotes(1, b, 0, 1))
	want(t, k, timeout(3, 1), actTimer(1, 2))
}
