package core_test

import (
	"slices"

	"gavel/api"
	"gavel/core"
)

// A plain core: it keeps what came in lists, and goes by the chapter's sentences, without a tally.

type plain struct {
	f, epoch, replica int
	state             core.State
	proposals, votes  []event
	came              map[string]bool // of the rules that come once in Round: those that did
}

func newPlain(c api.Conf, epoch, replica int) *plain {
	p := &plain{f: c.F, epoch: epoch, replica: replica, came: map[string]bool{}}
	p.state.LockedRound, p.state.ValidRound = -1, -1
	return p
}

func (p *plain) State() core.State { return p.state }

func (p *plain) Start() []core.Act {
	if p.state.Step > 0 {
		return nil
	}
	return p.settle(p.enter(0))
}

func (p *plain) Propose(round, valid int, h api.Hash, ok bool) []core.Act {
	there := slices.ContainsFunc(p.proposals, func(e event) bool { return e.round == round })
	if p.state.Decided || round < 0 || round > 1048576 || valid < -1 || valid >= round || h == zero || there {
		return nil
	}
	p.proposals = append(p.proposals, event{round: round, valid: valid, hash: h, ok: ok})
	return p.settle(nil)
}

func (p *plain) Vote(kind, round, replica int, h api.Hash) []core.Act {
	if p.state.Decided || !p.take(kind, round, replica, h) {
		return nil
	}
	return p.settle(nil)
}

func (p *plain) Timeout(t api.Timer) []core.Act {
	if p.state.Step == 0 || p.state.Decided || t.Round != p.state.Round {
		return nil
	}
	switch 10*t.Kind + p.state.Step {
	case 11:
		return p.settle(p.say(2, zero))
	case 22:
		return p.settle(p.say(3, zero))
	case 31, 32, 33:
		return p.settle(p.enter(t.Round + 1))
	}
	return nil
}

// take is the tally's Add.
func (p *plain) take(kind, round, replica int, h api.Hash) bool {
	there := slices.ContainsFunc(p.votes, func(e event) bool {
		return e.kind == kind && e.round == round && e.replica == replica
	})
	if kind != 1 && kind != 2 || round < 0 || round > 1048576 || replica < 0 || replica > 3*p.f || there {
		return false
	}
	p.votes = append(p.votes, event{kind: kind, round: round, replica: replica, hash: h})
	return true
}

// many tells whether 2 F + 1 voted so (h nil: for whatever).
func (p *plain) many(kind, round int, h *api.Hash) bool {
	n := 0
	for _, e := range p.votes {
		if e.kind == kind && e.round == round && (h == nil || e.hash == *h) {
			n++
		}
	}
	return n >= 2*p.f+1
}

// heard is the last round that F + 1 replicas have come to.
func (p *plain) heard() int {
	last := map[int]int{}
	for _, e := range p.votes {
		last[e.replica] = max(last[e.replica], e.round)
	}
	var l []int
	for _, round := range last {
		l = append(l, round)
	}
	slices.Sort(l)
	if len(l) < p.f+1 {
		return 0
	}
	return l[len(l)-p.f-1]
}

func (p *plain) enter(round int) []core.Act {
	if round > 1048576 {
		return nil
	}
	p.state.Round, p.state.Step, p.came = round, 1, map[string]bool{}
	if (p.epoch+round)%(3*p.f+1) == p.replica {
		return acts(core.Act{Kind: 1, Round: round, Valid: p.state.ValidRound, Hash: p.state.Valid})
	}
	return acts(core.Act{Kind: 4, Round: round, Valid: 1})
}

// say is a prevote (2) or a precommit (3) of its own; the step is the same number.
func (p *plain) say(kind int, h api.Hash) []core.Act {
	p.state.Step = kind
	p.take(kind-1, p.state.Round, p.replica, h)
	return acts(core.Act{Kind: kind, Round: p.state.Round, Valid: -1, Hash: h})
}

// first tells whether that has not come in Round.
func (p *plain) first(rule string) bool {
	if p.came[rule] {
		return false
	}
	p.came[rule] = true
	return true
}

func (p *plain) settle(out []core.Act) []core.Act {
	for {
		l, holds := p.rule()
		if !holds {
			return out
		}
		out = append(out, l...)
	}
}

func (p *plain) rule() ([]core.Act, bool) {
	s := &p.state
	if s.Step == 0 || s.Decided {
		return nil, false
	}
	won := -1
	var now *event
	for i, e := range p.proposals {
		if e.ok && p.many(2, e.round, &e.hash) && (won < 0 || e.round < p.proposals[won].round) {
			won = i
		}
		if e.round == s.Round {
			now = &p.proposals[i]
		}
	}
	if won >= 0 {
		s.Decided, s.Decision = true, p.proposals[won].hash
		return acts(core.Act{Kind: 5, Round: p.proposals[won].round, Valid: -1, Hash: s.Decision}), true
	}
	if r := p.heard(); r > s.Round {
		return p.enter(r), true
	}
	if s.Step == 1 && now != nil && now.valid == -1 {
		if now.ok && (s.LockedRound == -1 || s.Locked == now.hash) {
			return p.say(2, now.hash), true
		}
		return p.say(2, zero), true
	}
	if s.Step == 1 && now != nil && p.many(1, now.valid, &now.hash) {
		if now.ok && (s.LockedRound <= now.valid || s.Locked == now.hash) {
			return p.say(2, now.hash), true
		}
		return p.say(2, zero), true
	}
	if s.Step > 1 && now != nil && now.ok && p.many(1, s.Round, &now.hash) && p.first("valid") {
		s.Valid, s.ValidRound = now.hash, s.Round
		if s.Step == 3 {
			return nil, true
		}
		s.Locked, s.LockedRound = now.hash, s.Round
		return p.say(3, now.hash), true
	}
	if s.Step == 2 && p.many(1, s.Round, &zero) {
		return p.say(3, zero), true
	}
	if s.Step == 2 && p.many(1, s.Round, nil) && p.first("prevotes") {
		return acts(core.Act{Kind: 4, Round: s.Round, Valid: 2}), true
	}
	if p.many(2, s.Round, nil) && p.first("precommits") {
		return acts(core.Act{Kind: 4, Round: s.Round, Valid: 3}), true
	}
	return nil, false
}

func (p *plain) clone() *plain {
	c := *p
	c.proposals, c.votes = slices.Clone(p.proposals), slices.Clone(p.votes)
	c.came = map[string]bool{}
	for rule := range p.came {
		c.came[rule] = true
	}
	return &c
}
