package core_test

import (
	"fmt"
	"testing"

	"gavel/api"
)

// P14.4: every order in which three correct cores of four can be told things, in one round, and in those behind a decision.

// lies are all votes that a liar can say in a round for these hashes, and with these valid rounds (if it is the proposer) all proposals.
func lies(liar, round int, valids []int, hashes ...api.Hash) []event {
	var l []event
	for _, h := range hashes {
		l = append(l, voted(api.Prevote, round, liar, h), voted(api.Precommit, round, liar, h))
		for _, valid := range valids {
			l = append(l, proposed(round, valid, h))
		}
	}
	return l
}

var started = [3][]event{in(start), in(start), in(start)}

func TestOneRoundOfALiarsProposals(t *testing.T) {
	told := in(lies(0, 0, []int{-1}, a, b), lies(0, 0, nil, zero))
	w, n := newWorld(t, 0, 0, 0, [3]int{1, 2, 3}, started, told)
	if f := w.search(t, n); f.unlike > 0 || f.decided[a] == 0 || f.decided[b] == 0 || len(f.decided) != 2 {
		t.Error(f)
	}
}

func TestOneRoundOfACorrectProposal(t *testing.T) {
	x := hashOf(10)
	w, n := newWorld(t, 0, 0, 0, [3]int{0, 1, 3}, started, lies(2, 0, nil, zero, x, b))
	if f := w.search(t, n); f.decided[x] == 0 || len(f.decided) != 1 {
		t.Error(f)
	}
}

// One core has decided in round 0, and one more at least has locked that: through two rounds more nothing else is decided. (Of round 0 nothing is told any more.)
func TestRoundsBehindADecision(t *testing.T) {
	for _, who := range [][3]int{{1, 2, 3}, {1, 3, 2}, {2, 1, 3}, {2, 3, 1}, {3, 1, 2}, {3, 2, 1}} {
		liar, locked, last := who[0], who[1], who[2]
		x := hashOf(10)
		for i, past := range [][]event{
			in(start, timeout(1, 0), timeout(2, 0), timeout(3, 0)),
			in(start, timeout(1, 0), timeout(2, 0), proposed(0, -1, x), prevotes(0, x, 0, liar, locked), timeout(3, 0)),
		} {
			w, n := newWorld(t, 0, 1, 2, [3]int{0, locked, last}, [3][]event{
				in(start, prevotes(0, x, liar, locked), precommits(0, x, liar, locked)),
				in(start, proposed(0, -1, x), prevotes(0, x, 0, liar), timeout(3, 0)),
				past,
			}, liesBehind(liar, x))
			t.Run(fmt.Sprint(who, i), func(t *testing.T) {
				t.Parallel()
				if f := w.search(t, n); f.decided[x] == 0 || len(f.decided) != 1 || f.orders < 50 {
					t.Error(f)
				}
			})
		}
	}
}

// liesBehind is what a liar says in the rounds 1 and 2: for x, and for another one, which it proposes itself or the correct proposer of round 1 does.
func liesBehind(liar int, x api.Hash) []event {
	other := hashOf(11)
	var l []event
	for round := 1; round <= 2; round++ {
		var valids []int
		if liar == round {
			valids = []int{-1, 0, 1}[:round+1]
		}
		l = in(l, lies(liar, round, valids, x, other))
	}
	return l
}
