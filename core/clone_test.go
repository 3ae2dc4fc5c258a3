package core_test

import (
	"slices"
	"testing"

	"gavel/api"
	"gavel/core"
)

// R4: State, Clone, and the memory that is handed out

// lives are beginnings of a core, one for each kind of thing that it holds.
func lives() [][]event {
	return [][]event{
		nil, in(proposed(0, -1, a)), in(prevotes(0, a, 0, 1)), in(start), in(start, proposed(0, -1, a)),
		in(start, proposed(0, -1, a), prevotes(0, a, 0)), in(start, proposed(0, -1, a), prevotes(0, a, 0, 1)),
		in(start, proposed(0, -1, a), prevotes(0, b, 0, 1)), in(start, precommits(0, b, 0, 1, 2)),
		in(start, proposed(0, -1, a), prevotes(0, a, 0, 1), timeout(3, 0), proposed(1, -1, b)),
		in(start, proposed(0, -1, a), precommits(0, a, 0, 1, 2)), in(proposed(7, -1, a), precommits(7, a, 0, 1, 2)),
	}
}

func TestCloneIsAsItIs(t *testing.T) {
	for _, past := range lives() {
		for _, l := range pool() {
			k, same := fresh(t, conf, 0, 3), fresh(t, conf, 0, 3)
			run(k, past)
			run(same, past)
			other := k.Clone()
			if other == k {
				t.Fatal("the same object")
			}
			wantState(t, "a clone", other, k.State())
			for _, e := range in(l, start, timeout(1, 0), precommits(0, a, 0, 1, 2)) {
				want(t, other, e, e.do(same)...)
				wantState(t, "a clone", other, same.State())
			}
		}
	}
}

// What is done to either is not done to the other one.
func TestCloneGoesItsOwnWay(t *testing.T) {
	for _, past := range lives() {
		for _, l := range pool() {
			for turned := range 2 {
				k, same := fresh(t, conf, 0, 3), fresh(t, conf, 0, 3)
				run(k, past)
				run(same, past)
				other := k.Clone()
				if turned == 1 {
					k, other = other, k
				}
				run(other, in(l, proposed(0, -1, b), proposed(1, -1, b), precommits(0, b, 0, 1, 2, 3), prevotes(1, b, 0, 1, 2), timeout(3, 0)))
				wantState(t, "the other one", k, same.State())
				for _, e := range in(start, proposed(0, -1, a), proposed(1, -1, a), prevotes(1, a, 0, 1, 2), precommits(1, a, 0, 1)) {
					want(t, k, e, e.do(same)...)
					wantState(t, "the other one", k, same.State())
				}
			}
		}
	}
}

func TestCloneOfAClone(t *testing.T) {
	k := behind(t, proposed(0, -1, a))
	var all []*core.Core
	for replica := range 3 {
		all = append(all, k)
		k = k.Clone()
		voted(1, 0, replica, a).do(k)
	}
	wantState(t, "no vote", all[0], unlocked(0, 2))
	wantState(t, "one vote", all[1], unlocked(0, 2))
	wantState(t, "two votes", all[2], locked(0, 3, 0, a))
	want(t, all[1], voted(1, 0, 2, a), actPrecommit(0, a))
	wantNothing(t, all[0], voted(1, 0, 2, a))
}

// What is handed out is new memory: to write into it, and behind it, changes nothing.
func TestWhatIsHandedOutIsNew(t *testing.T) {
	k, same := fresh(t, conf, 0, 3), fresh(t, conf, 0, 3)
	var kept, copies [][]core.Act
	for _, e := range in(prevotes(0, a, 0, 1), proposed(0, -1, a), start, timeout(3, 0), timeout(1, 1), prevotes(1, a, 0, 1), timeout(2, 1), proposed(1, -1, a), timeout(3, 1), timeout(3, 2), precommits(0, a, 0, 1)) {
		got, wanted := e.do(k), e.do(same)
		if !slices.Equal(got, wanted) {
			t.Errorf("%v: %s, want %s", e, tell(got), tell(wanted))
		}
		kept, copies = append(kept, wanted), append(copies, slices.Clone(wanted))
		for i := range got[:cap(got)] {
			got[:cap(got)][i] = core.Act{Kind: 9, Round: 9, Valid: 9, Hash: c}
		}
	}
	for i := range kept {
		if !slices.Equal(kept[i], copies[i]) {
			t.Errorf("what was handed out is another one now: %s, was %s", tell(kept[i]), tell(copies[i]))
		}
	}
	wantState(t, "decided", k, decided(same.State(), a))
}

// State is a value: to write into it changes nothing.
func TestState(t *testing.T) {
	k := behind(t, proposed(0, -1, a), prevotes(0, a, 0, 1))
	s := k.State()
	s.Locked[0], s.Valid[0], s.Decision[0], s.Round, s.Decided = 9, 9, 9, 9, true
	wantState(t, "State", k, locked(0, 3, 0, a))
	want(t, k, timeout(api.TimePrecommit, 0), actTimer(1, 1))
}
