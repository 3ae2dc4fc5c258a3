package core_test

import (
	"fmt"
	"slices"
	"testing"

	"gavel/api"
	"gavel/core"
)

// What the tests of all calls share: events, which are calls as values, and what is expected of them.

// conf is of four replicas, 2 F + 1 is 3.
var conf = api.Conf{F: 1, Clients: 3}

func confOf(f int) api.Conf { return api.Conf{F: f, Clients: 1} }

// zero is the hash that stands for none, a, b and c are three others.
var zero, a, b, c = hashOf(0), hashOf(1), hashOf(2), hashOf(3)

// hashOf is the zero hash of 0, and unlike hashes of unlike numbers.
func hashOf(n int) api.Hash {
	return api.Hash{0: byte(n >> 16), 15: byte(n >> 8), 31: byte(n)}
}

// machine is what a core and a plain one do.
type machine interface {
	Start() []core.Act
	Propose(round, valid int, h api.Hash, ok bool) []core.Act
	Vote(kind, round, replica int, h api.Hash) []core.Act
	Timeout(t api.Timer) []core.Act
	State() core.State
}

// Calls that an event can be of.
const (
	callStart = iota
	callPropose
	callVote
	callTimeout
)

// event is a call of a machine. What its call does not need is its zero value.
type event struct {
	call, kind, round, valid, replica int
	hash                              api.Hash
	ok                                bool
}

func (e event) String() string {
	switch e.call {
	case callStart:
		return "Start()"
	case callPropose:
		return fmt.Sprintf("Propose(%d, %d, %s, %v)", e.round, e.valid, tellHash(e.hash), e.ok)
	case callVote:
		return fmt.Sprintf("Vote(%d, %d, %d, %s)", e.kind, e.round, e.replica, tellHash(e.hash))
	}
	return fmt.Sprintf("Timeout({%d %d})", e.kind, e.round)
}

func (e event) do(m machine) []core.Act {
	switch e.call {
	case callStart:
		return m.Start()
	case callPropose:
		return m.Propose(e.round, e.valid, e.hash, e.ok)
	case callVote:
		return m.Vote(e.kind, e.round, e.replica, e.hash)
	}
	return m.Timeout(api.Timer{Kind: e.kind, Round: e.round})
}

var start = event{call: callStart}

// proposed is a proposal that is ok.
func proposed(round, valid int, h api.Hash) event {
	return event{call: callPropose, round: round, valid: valid, hash: h, ok: true}
}

// spoilt is a proposal that is not ok.
func spoilt(round, valid int, h api.Hash) event {
	return event{call: callPropose, round: round, valid: valid, hash: h}
}

func voted(kind, round, replica int, h api.Hash) event {
	return event{call: callVote, kind: kind, round: round, replica: replica, hash: h}
}

// prevotes is a prevote of each of these replicas.
func prevotes(round int, h api.Hash, replicas ...int) []event {
	return votes(api.Prevote, round, h, replicas...)
}

// precommits is a precommit of each of these replicas.
func precommits(round int, h api.Hash, replicas ...int) []event {
	return votes(api.Precommit, round, h, replicas...)
}

func votes(kind, round int, h api.Hash, replicas ...int) []event {
	var l []event
	for _, replica := range replicas {
		l = append(l, voted(kind, round, replica, h))
	}
	return l
}

func timeout(kind, round int) event {
	return event{call: callTimeout, kind: kind, round: round}
}

// in is all these events, one behind the other.
func in(l ...any) []event {
	var out []event
	for _, x := range l {
		switch x := x.(type) {
		case event:
			out = append(out, x)
		case []event:
			out = append(out, x...)
		}
	}
	return out
}

func actPropose(round, valid int, h api.Hash) core.Act { return core.Act{1, round, valid, h} }
func actPrevote(round int, h api.Hash) core.Act        { return core.Act{2, round, -1, h} }
func actPrecommit(round int, h api.Hash) core.Act      { return core.Act{3, round, -1, h} }
func actTimer(kind, round int) core.Act                { return core.Act{4, round, kind, zero} }
func actDecide(round int, h api.Hash) core.Act         { return core.Act{5, round, -1, h} }

func acts(l ...core.Act) []core.Act { return l }

// fresh is a core that is not started.
func fresh(t *testing.T, c api.Conf, epoch, replica int) *core.Core {
	t.Helper()
	k, e := core.New(c, epoch, replica)
	if k == nil || e != api.OK {
		t.Fatalf("New(%v, %d, %d): %v, %d", c, epoch, replica, k, e)
	}
	return k
}

// behind is a core of replica 3 of four in epoch 0, who proposes first in round 3, behind its start and these events.
func behind(t *testing.T, l ...any) *core.Core {
	t.Helper()
	k := fresh(t, conf, 0, 3)
	run(k, in(start, in(l...)))
	return k
}

// run tells all that is wanted over all these events.
func run(m machine, l []event) []core.Act {
	var out []core.Act
	for _, e := range l {
		out = append(out, e.do(m)...)
	}
	return out
}

// want expects that the event makes the machine want just that.
func want(t *testing.T, m machine, e event, l ...core.Act) {
	t.Helper()
	if got := e.do(m); !slices.Equal(got, l) {
		t.Errorf("%v: %s, want %s; %s", e, tell(got), tell(l), tellState(m.State()))
	}
}

// wantNothing expects of each of these events that nothing is wanted, and nothing is another way then.
func wantNothing(t *testing.T, m machine, l ...event) {
	t.Helper()
	for _, e := range l {
		before := m.State()
		want(t, m, e)
		wantState(t, e.String(), m, before)
	}
}

// wantState expects that this is what the machine holds.
func wantState(t *testing.T, what string, m machine, s core.State) {
	t.Helper()
	if got := m.State(); got != s {
		t.Errorf("%s: %s, want %s", what, tellState(got), tellState(s))
	}
}

// tell is what is wanted, as a text.
func tell(l []core.Act) string {
	s := ""
	for _, x := range l {
		name := [...]string{"none", "propose", "prevote", "precommit", "timer", "decide"}[max(0, min(x.Kind, 5))]
		s += fmt.Sprintf("[%s round %d, valid %d, %s]", name, x.Round, x.Valid, tellHash(x.Hash))
	}
	return s
}

// tellHash is a hash by the bytes in which those of hashOf differ.
func tellHash(h api.Hash) string { return fmt.Sprintf("%x.%x.%x", h[0], h[15], h[31]) }

func tellState(s core.State) string {
	return fmt.Sprintf("{round %d, step %d, locked %d %s, valid %d %s, decided %v %s}", s.Round, s.Step, s.LockedRound, tellHash(s.Locked), s.ValidRound, tellHash(s.Valid), s.Decided, tellHash(s.Decision))
}

// unlocked is what a core that has neither locked nor decided holds in that round and step.
func unlocked(round, step int) core.State {
	return core.State{Round: round, Step: step, LockedRound: -1, ValidRound: -1}
}

// locked is what a core holds that has locked, in that round, what is valid.
func locked(round, step, lockedRound int, h api.Hash) core.State {
	return core.State{Round: round, Step: step, LockedRound: lockedRound, ValidRound: lockedRound, Locked: h, Valid: h}
}

// decided is what a core holds that held s, and decided.
func decided(s core.State, h api.Hash) core.State {
	s.Decided, s.Decision = true, h
	return s
}
