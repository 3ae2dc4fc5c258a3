package core

import (
	"sort"

	"gavel/api"
	"gavel/wire"
)

// settle does what the rules ask for, till none of them holds.
func (k *Core) settle() []Act {
	var out []Act
	for k.runs() {
		acts, holds := k.first()
		if !holds {
			break
		}
		out = append(out, acts...)
	}
	return out
}

// first does what the first rule that holds asks for; false: none does.
func (k *Core) first() ([]Act, bool) {
	rules := [...]func() ([]Act, bool){k.decide, k.follow, k.answer, k.lock, k.giveUp, k.awaitPrevotes, k.awaitPrecommits}
	for _, rule := range rules {
		if acts, holds := rule(); holds {
			return acts, true
		}
	}
	return nil, false
}

// decide decides the least round that can be.
func (k *Core) decide() ([]Act, bool) {
	if k.ready > api.MaxRound {
		return nil, false
	}
	h := k.proposals[k.ready].hash
	k.state.Decided, k.state.Decision = true, h
	return []Act{{Kind: ActDecide, Round: k.ready, Valid: noRound, Hash: h}}, true
}

// follow enters the last round that F + 1 replicas have come to: one of them at least does not lie.
func (k *Core) follow() ([]Act, bool) {
	round := k.state.Round
	if k.tally.Heard(round+1) <= k.conf.F {
		return nil, false
	}
	ahead := sort.Search(api.MaxRound-round, func(i int) bool {
		return k.tally.Heard(round+1+i) <= k.conf.F
	})
	return k.enter(round + ahead), true
}

// answer prevotes on the proposal of Round.
func (k *Core) answer() ([]Act, bool) {
	p, there := k.proposals[k.state.Round]
	if k.state.Step != stepPropose || !there || p.valid != noRound && !k.quorum(api.Prevote, p.valid, p.hash) {
		return nil, false
	}
	if p.ok && k.letsPass(p) {
		return k.prevote(p.hash), true
	}
	return k.prevote(api.Hash{}), true
}

// letsPass tells whether what is locked, if anything is, stands in the way of p. (Where nothing is, LockedRound is at most each valid round, also that of a new proposal; where something is, it is above that of a new one.)
func (k *Core) letsPass(p proposal) bool {
	return k.state.LockedRound <= p.valid || k.state.Locked == p.hash
}

// lock takes over the proposal of Round that a quorum prevoted for.
func (k *Core) lock() ([]Act, bool) {
	round := k.state.Round
	p := k.proposals[round]
	if k.once.quorum || k.state.Step < stepPrevote || !p.ok || !k.quorum(api.Prevote, round, p.hash) {
		return nil, false
	}
	k.once.quorum = true
	k.state.Valid, k.state.ValidRound = p.hash, round
	if k.state.Step != stepPrevote {
		return nil, true
	}
	k.state.Locked, k.state.LockedRound = p.hash, round
	return k.precommit(p.hash), true
}

// giveUp precommits none, where a quorum prevoted for none.
func (k *Core) giveUp() ([]Act, bool) {
	if k.state.Step != stepPrevote || !k.quorum(api.Prevote, k.state.Round, api.Hash{}) {
		return nil, false
	}
	return k.precommit(api.Hash{}), true
}

// awaitPrevotes sets a timer for the prevotes that are not there yet.
func (k *Core) awaitPrevotes() ([]Act, bool) {
	if k.once.prevotes || k.state.Step != stepPrevote || !k.enough(api.Prevote) {
		return nil, false
	}
	k.once.prevotes = true
	return k.timer(api.TimePrevote), true
}

// awaitPrecommits sets a timer for the precommits that are not there yet.
func (k *Core) awaitPrecommits() ([]Act, bool) {
	if k.once.precommits || !k.enough(api.Precommit) {
		return nil, false
	}
	k.once.precommits = true
	return k.timer(api.TimePrecommit), true
}

// enough tells whether a quorum voted in Round, for whatever it was.
func (k *Core) enough(kind int) bool {
	return k.tally.All(kind, k.state.Round) >= wire.Quorum(k.conf)
}

// expire does what the end of a timer of Round asks for.
func (k *Core) expire(timer int) []Act {
	switch {
	case timer == api.TimePropose && k.state.Step == stepPropose:
		return k.prevote(api.Hash{})
	case timer == api.TimePrevote && k.state.Step == stepPrevote:
		return k.precommit(api.Hash{})
	case timer == api.TimePrecommit:
		return k.enter(k.state.Round + 1)
	}
	return nil
}

// enter begins a round: it proposes, or waits for the proposal.
func (k *Core) enter(round int) []Act {
	if round > api.MaxRound {
		return nil
	}
	k.state.Round, k.state.Step, k.once = round, stepPropose, once{}
	if Proposer(k.conf, k.epoch, round) != k.replica {
		return k.timer(api.TimePropose)
	}
	return []Act{{Kind: ActPropose, Round: round, Valid: k.state.ValidRound, Hash: k.state.Valid}}
}

// prevote votes for h, or for none.
func (k *Core) prevote(h api.Hash) []Act {
	k.state.Step = stepPrevote
	return k.vote(ActPrevote, api.Prevote, h)
}

// precommit votes for h for good, or for none.
func (k *Core) precommit(h api.Hash) []Act {
	k.state.Step = stepPrecommit
	return k.vote(ActPrecommit, api.Precommit, h)
}

// vote tells a vote of its own, and counts it. (The tally may have one already, which somebody said in this replica's name.)
func (k *Core) vote(act, kind int, h api.Hash) []Act {
	k.count(kind, k.state.Round, k.replica, h)
	return []Act{{Kind: act, Round: k.state.Round, Valid: noRound, Hash: h}}
}

// timer wants a timer of Round set.
func (k *Core) timer(kind int) []Act {
	return []Act{{Kind: ActTimer, Round: k.state.Round, Valid: kind}}
}
