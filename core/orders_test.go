package core_test

import (
	"math/rand"
	"slices"
	"testing"

	"gavel/api"
	"gavel/core"
)

// P14.1 to P14.3: many orders, each step held against a plain core.

// try does e with both, and expects the same of both.
func try(t *testing.T, k *core.Core, p *plain, e event, past []event) {
	t.Helper()
	got, want := e.do(k), e.do(p)
	if !slices.Equal(got, want) || k.State() != p.state {
		t.Fatalf("%v behind %v: %s %s, want %s %s", e, past, tell(got), tellState(k.State()), tell(want), tellState(p.state))
	}
}

// pool are events that bear on one another: two rounds, two hashes, votes of two replicas at once.
func pool() [][]event {
	l := [][]event{
		in(start), in(proposed(0, -1, a)), in(spoilt(0, -1, a)), in(proposed(0, 0, a)),
		in(proposed(1, -1, a)), in(proposed(1, -1, b)), in(proposed(1, 0, a)), in(proposed(1, 0, b)), in(spoilt(1, 0, a)),
	}
	for kind := 1; kind <= 3; kind++ {
		l = append(l, in(timeout(kind, 0)), in(timeout(kind, 1)))
	}
	for kind := 1; kind <= 2; kind++ {
		for _, h := range []api.Hash{zero, a, b} {
			l = append(l, votes(kind, 0, h, 1, 2), votes(kind, 1, h, 1, 2))
		}
	}
	return append(l, prevotes(0, a, 0), precommits(1, a, 0), precommits(1, a, 3), prevotes(2, b, 0, 1), prevotes(5, b, 2))
}

func TestEachOrderOfFourEvents(t *testing.T) {
	l := pool()
	for _, replica := range []int{0, 1, 3} {
		p, k := newPlain(conf, 0, replica), fresh(t, conf, 0, replica)
		eachOrder(t, k, p, l, nil, 4-replica/3)
	}
}

// eachOrder tries each order of so many of l behind past.
func eachOrder(t *testing.T, k *core.Core, p *plain, l [][]event, past []event, depth int) {
	if depth == 0 {
		return
	}
	for _, x := range l {
		k2, p2 := k.Clone(), p.clone()
		for i, e := range x {
			try(t, k2, p2, e, append(past, x[:i]...))
		}
		eachOrder(t, k2, p2, l, slices.Concat(past, x), depth-1)
	}
}

func TestLongOrders(t *testing.T) {
	r := rand.New(rand.NewSource(14))
	decisions, rounds, unlike := 0, 0, 0
	for number := range 3000 {
		f := 1 + number%3
		if number%100 == 0 {
			f = api.MaxF
		}
		k, p := longOrder(t, r, f)
		if k.State() != p.state {
			t.Fatalf("%s, want %s", tellState(k.State()), tellState(p.state))
		}
		rounds += p.state.Round
		if p.state.Decided {
			decisions++
		}
		if p.state.LockedRound != p.state.ValidRound {
			unlike++
		}
	}
	if decisions < 100 || rounds < 10000 || unlike < 40 {
		t.Errorf("%d decisions, %d rounds, %d times a round was valid that was not locked: too few", decisions, rounds, unlike)
	}
}

// longOrder tries a long order of chance; now and then a clone goes another way.
func longOrder(t *testing.T, r *rand.Rand, f int) (*core.Core, *plain) {
	t.Helper()
	c := confOf(f)
	epoch, replica := r.Intn(2)*r.Intn(api.MaxEpoch+1), r.Intn(3*f+1)
	k, p := fresh(t, c, epoch, replica), newPlain(c, epoch, replica)
	hashes := 1 + r.Intn(3)
	var past []event
	for range 30 + 20*f {
		for _, e := range chance(r, p, f, hashes) {
			if r.Intn(200) == 0 {
				other := k
				if r.Intn(2) == 0 {
					k = other.Clone()
				} else {
					other = k.Clone()
				}
				run(other, chance(r, p, f, 3))
			}
			try(t, k, p, e, past)
			past = append(past, e)
		}
	}
	return k, p
}

// chance are events that bear on Round or on the rounds about it; now and then, of anything.
func chance(r *rand.Rand, p *plain, f, hashes int) []event {
	round := p.state.Round + max(0, r.Intn(12)-8) - max(0, r.Intn(12)-9)
	h := hashOf(r.Intn(hashes + 1))
	for _, e := range p.proposals {
		if e.round == round && r.Intn(2) == 0 {
			h = e.hash
		}
	}
	switch r.Intn(14) {
	case 0:
		return in(start)
	case 1, 2, 3:
		return in(event{call: callPropose, round: round, valid: r.Intn(max(0, round)+2) - 1, hash: h, ok: r.Intn(5) > 0})
	case 4, 5, 6:
		return in(timeout(r.Intn(4), round))
	case 7:
		return anything(r, f)
	case 8:
		return in(voted(1+r.Intn(2), round, p.replica, h))
	}
	return votes(1+r.Intn(5)/4, round, h, r.Perm(3*f + 1)[:r.Intn(2*f+1)]...)
}

// anything is an event whose parts may be or not.
func anything(r *rand.Rand, f int) []event {
	numbers := []int{-1 << 63, -1 << 32, -2, -1, 0, 1, 2, 3, 4, 3 * f, 3*f + 1, 1<<20 - 1, 1 << 20, 1<<20 + 1, 1 << 32, 1<<63 - 1}
	one := func() int { return numbers[r.Intn(len(numbers))] }
	return in(event{call: r.Intn(4), kind: one(), round: one(), valid: one(), replica: one(), hash: hashOf(r.Intn(3)), ok: true})
}
