package core_test

import (
	"math/rand"
	"testing"

	"gavel/api"
	"gavel/core"
	"gavel/wire"
)

// P14.4: no two cores decide unlike hashes.

// hall is cores, and what was said in it. The liars tell each of two camps another story.
type hall struct {
	conf    api.Conf
	epoch   int
	cores   []*core.Core // of a liar none
	camps   []int        // of each replica
	inbox   [][]event    // of each replica: what it has not been told yet
	said    []event
	decided map[api.Hash]int
}

func newHall(t *testing.T, r *rand.Rand, f, liars int) *hall {
	t.Helper()
	h := &hall{conf: confOf(f), epoch: r.Intn(9), decided: map[api.Hash]int{}}
	n := wire.N(h.conf)
	h.cores, h.inbox = make([]*core.Core, n), make([][]event, n)
	for range n {
		h.camps = append(h.camps, r.Intn(2))
	}
	for _, i := range r.Perm(n)[liars:] {
		h.cores[i] = fresh(t, h.conf, h.epoch, i)
		h.tell(i, start)
	}
	return h
}

// tell tells a core e; what it wants then is said.
func (h *hall) tell(i int, e event) {
	for _, x := range e.do(h.cores[i]) {
		switch x.Kind {
		case core.ActPropose:
			if x.Hash == zero {
				x.Hash = hashOf(256*(1+i) + x.Round)
			}
			e := proposed(x.Round, x.Valid, x.Hash)
			h.say(i, e)
			h.tell(i, e)
		case core.ActPrevote, core.ActPrecommit:
			h.say(i, voted(x.Kind-1, x.Round, i, x.Hash))
		case core.ActDecide:
			h.decided[x.Hash]++
		}
	}
}

func (h *hall) say(from int, e event) {
	h.said = append(h.said, e)
	for i := range h.inbox {
		if i != from {
			h.inbox[i] = append(h.inbox[i], e)
		}
	}
}

// sender is who said e.
func (h *hall) sender(e event) int {
	if e.call == callPropose {
		return core.Proposer(h.conf, h.epoch, e.round)
	}
	return e.replica
}

// story is the hash that the liars tell a camp of in a round: what a correct one proposes, or one of the camp's own.
func (h *hall) story(camp, round int) api.Hash {
	for _, e := range h.said {
		if e.call == callPropose && e.round == round {
			return e.hash
		}
	}
	return hashOf(1 + camp)
}

// lie is what a liar says to i; now and then it is not of the story.
func (h *hall) lie(r *rand.Rand, i int) event {
	round := max(0, h.cores[i].State().Round+r.Intn(4)/3-r.Intn(4)/3)
	x := h.story(h.camps[i], round)
	if r.Intn(20) == 0 {
		x = hashOf(1 + r.Intn(2))
	}
	if p := core.Proposer(h.conf, h.epoch, round); h.cores[p] == nil && r.Intn(2) == 0 {
		return proposed(round, max(-1, r.Intn(2*round+1)-round-1), x)
	}
	liar := r.Intn(len(h.cores))
	for h.cores[liar] != nil {
		liar = (liar + 1) % len(h.cores)
	}
	return voted(1+r.Intn(2), round, liar, x)
}

// next is one of the last things that i has not been told yet; what the other camp says it may not be told for now.
func (h *hall) next(r *rand.Rand, i, apart int) {
	l := h.inbox[i]
	if len(l) == 0 {
		return
	}
	at := max(0, len(l)-1-r.Intn(12))
	e := l[at]
	if h.camps[h.sender(e)] != h.camps[i] && r.Intn(20) < apart {
		return
	}
	if r.Intn(10) > 0 {
		h.inbox[i] = append(l[:at], l[at+1:]...)
	}
	h.tell(i, e)
}

// walk tells the cores things by chance, as often as that.
func (h *hall) walk(r *rand.Rand, times int) {
	lies, timeouts, apart := 1+r.Intn(80), 1+r.Intn(4), r.Intn(21)
	for range times {
		i := r.Intn(len(h.cores))
		if h.cores[i] == nil || h.cores[i].State().Decided {
			continue
		}
		switch x := r.Intn(100); {
		case x < lies:
			h.tell(i, h.lie(r, i))
		case x < lies+timeouts:
			h.tell(i, timeout(1+r.Intn(3), h.cores[i].State().Round))
		default:
			h.next(r, i, apart)
		}
	}
}

func TestWalks(t *testing.T) {
	for f := 1; f <= 2; f++ {
		for liars := 1; liars <= f+1; liars++ {
			r := rand.New(rand.NewSource(int64(10*f + liars)))
			one, more := 0, 0
			for range 10000 {
				h := newHall(t, r, f, liars)
				h.walk(r, 400*f)
				if len(h.decided) == 1 {
					one++
				} else if len(h.decided) > 1 {
					more++
				}
			}
			// F + 1 liars can do it, so it is no lack of lies that less can not.
			if one < 5000 || (more > 0) != (liars > f) {
				t.Errorf("F %d, %d liars: one hash is decided in %d walks, more in %d", f, liars, one, more)
			}
		}
	}
}
