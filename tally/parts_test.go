package tally_test

import (
	"bytes"
	"fmt"
	"math"
	"slices"
	"testing"

	"gavel/api"
	"gavel/tally"
)

// What the tests of all calls share: votes, and a plain tally, which keeps them in a list.

// conf is of four replicas.
var conf = api.Conf{F: 1, Clients: 3}

func confOf(f int) api.Conf { return api.Conf{F: f, Clients: 1} }

// vote is what one Add is handed.
type vote struct {
	kind, round, replica int
	hash                 api.Hash
}

// hashOf is the zero hash of 0, and unlike hashes of unlike numbers, the greater the number the greater the hash.
func hashOf(n int) api.Hash {
	return api.Hash{byte(n >> 16), 30: byte(n >> 8), 31: byte(n)}
}

func fresh(t *testing.T, c api.Conf) *tally.Tally {
	t.Helper()
	got, e := tally.New(c)
	if got == nil || e != api.OK {
		t.Fatalf("New(%v): %v, %d", c, got, e)
	}
	return got
}

// holding is a new tally of four replicas that has taken these votes.
func holding(t *testing.T, votes ...vote) *tally.Tally {
	t.Helper()
	got := fresh(t, conf)
	add(t, got, votes...)
	return got
}

// add expects that all these votes are taken.
func add(t *testing.T, to *tally.Tally, votes ...vote) {
	t.Helper()
	for _, v := range votes {
		if !to.Add(v.kind, v.round, v.replica, v.hash) {
			t.Fatalf("%v is not taken", v)
		}
	}
}

// refuse expects that each of these votes is refused, and that no answer is another one then.
func refuse(t *testing.T, what string, to *tally.Tally, votes ...vote) {
	t.Helper()
	before := told(to)
	for _, v := range votes {
		if to.Add(v.kind, v.round, v.replica, v.hash) {
			t.Errorf("%s: %v is taken", what, v)
		}
		if got := told(to); got != before {
			t.Fatalf("%s: %v is refused, and then %s, before %s", what, v, got, before)
		}
	}
}

// voices is a vote of each of these replicas.
func voices(kind, round int, h api.Hash, replicas ...int) []vote {
	var l []vote
	for _, replica := range replicas {
		l = append(l, vote{kind, round, replica, h})
	}
	return l
}

// plain is a tally told another way: the votes as they came.
type plain struct {
	replicas int
	votes    []vote
}

func newPlain(c api.Conf) *plain { return &plain{replicas: 3*c.F + 1} }

func (p *plain) Add(kind, round, replica int, h api.Hash) bool {
	may := (kind == 1 || kind == 2) && 0 <= round && round <= 1048576 && 0 <= replica && replica < p.replicas
	for _, v := range p.votes {
		may = may && (v.kind != kind || v.round != round || v.replica != replica)
	}
	if may {
		p.votes = append(p.votes, vote{kind, round, replica, h})
	}
	return may
}

// cast are the hashes that were voted for, each as often as it was, by rising hashes.
func (p *plain) cast(kind, round int) []api.Hash {
	var l []api.Hash
	for _, v := range p.votes {
		if v.kind == kind && v.round == round {
			l = append(l, v.hash)
		}
	}
	slices.SortFunc(l, func(a, b api.Hash) int { return bytes.Compare(a[:], b[:]) })
	return l
}

func (p *plain) For(kind, round int, h api.Hash) int {
	n := 0
	for _, x := range p.cast(kind, round) {
		if x == h {
			n++
		}
	}
	return n
}

func (p *plain) All(kind, round int) int { return len(p.cast(kind, round)) }

func (p *plain) Most(kind, round int) (api.Hash, int) {
	var most api.Hash
	n := 0
	for _, h := range p.cast(kind, round) {
		if m := p.For(kind, round, h); m > n {
			most, n = h, m
		}
	}
	return most, n
}

func (p *plain) Heard(round int) int {
	heard := map[int]bool{}
	for _, v := range p.votes {
		if v.round >= round {
			heard[v.replica] = true
		}
	}
	return len(heard)
}

func (p *plain) clone() *plain { return &plain{p.replicas, slices.Clone(p.votes)} }

// teller is what a tally and a plain one tell.
type teller interface {
	For(kind, round int, h api.Hash) int
	All(kind, round int) int
	Most(kind, round int) (api.Hash, int)
	Heard(round int) int
}

// asked are the kinds and the rounds that are asked for: those that there are, and others.
var (
	askedKinds  = []int{math.MinInt, -1, 0, api.Prevote, api.Precommit, 3, 1<<32 + 1, math.MaxInt}
	askedRounds = []int{math.MinInt, -1, 0, 1, 2, 3, 7, 256, api.MaxRound - 1, api.MaxRound, api.MaxRound + 1, 1 << 32, math.MaxInt}
)

// told is all that a tally tells of these kinds and rounds, but what is 0.
func told(l teller) string {
	s := ""
	for _, round := range askedRounds {
		for _, kind := range askedKinds {
			s += toldOf(l, kind, round)
		}
		if n := l.Heard(round); n != 0 {
			s += fmt.Sprintf("heard from %d on: %d\n", round, n)
		}
	}
	return s
}

// toldOf is what a tally tells of one kind and round.
func toldOf(l teller, kind, round int) string {
	h, n := l.Most(kind, round)
	all := l.All(kind, round)
	s := ""
	if n != 0 || all != 0 || h != (api.Hash{}) {
		s = fmt.Sprintf("kind %d, round %d: all %d, most %x %d", kind, round, all, h, n)
	}
	for i := range 5 {
		if n := l.For(kind, round, hashOf(i)); n != 0 {
			s += fmt.Sprintf(", kind %d, round %d, for %d: %d", kind, round, i, n)
		}
	}
	return s
}

// wantVotes expects that the tally tells what one with just these votes does.
func wantVotes(t *testing.T, what string, got *tally.Tally, votes ...vote) {
	t.Helper()
	if got, want := told(got), told(&plain{votes: votes}); got != want {
		t.Errorf("%s: %s, want %s", what, got, want)
	}
}

// zeroHash stands for none.
var zeroHash api.Hash
