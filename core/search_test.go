package core_test

import (
	"maps"
	"math/bits"
	"slices"
	"strconv"
	"strings"
	"testing"

	"gavel/api"
	"gavel/core"
)

// A search through each order in which three correct cores can be told things, whatever is lost or late, whatever the liars say to whom, and whenever a timer ends.
//
// All that one core learns of another is what that one says. So the search goes through the orders in which things are said, and keeps with each the spots in which each core can be by then: where one core is then does not hang on where another one is.

// spot is where a core can be: what it holds, and what it took and said (a bit for each event of the world).
type spot struct {
	state core.State
	past  uint64
}

// step is what an event does to a core: where it is then, and what it says (a bit each).
type step struct {
	to   int
	said uint64
}

// seat is a correct replica: the spots that its core was met in and the sets of these, numbered as they were met.
type seat struct {
	replica int
	ids     map[spot]int
	spots   []spot
	cores   []*core.Core
	steps   map[[2]int]step
	sets    map[string]int
	lists   [][]int
	grown   map[growth]grown
}

// growth is a set of spots, and what can be told to a core there.
type growth struct {
	set      int
	tellable uint64
}

// grown is the set that is reached without a word, the hashes that are decided in it, and what can be said next, with the set that is reached by saying it.
type grown struct {
	set     int
	decided []api.Hash
	next    map[uint64]int
}

// world is the seats, and all that can be said to them.
type world struct {
	first, last int // the rounds that are gone through
	seats       [3]*seat
	events      []event
	bit         map[event]int
	rivals      []uint64 // of each event: those of which a core takes one alone
	lies        uint64
}

// node is an order in which things were said: the spots of each seat, and what each said.
type node struct {
	sets [3]int
	said [3]uint64
}

// newWorld is three correct replicas that are each behind a past of its own.
func newWorld(t *testing.T, epoch, first, last int, replicas [3]int, pasts [3][]event, lies []event) (*world, node) {
	t.Helper()
	w := &world{first: first, last: last, bit: map[event]int{}}
	for _, e := range lies {
		w.lies |= 1 << w.bitOf(e)
	}
	var n node
	for i, replica := range replicas {
		k, past := fresh(t, conf, epoch, replica), uint64(0)
		for _, e := range pasts[i] {
			if e.call == callVote || e.call == callPropose {
				past |= 1 << w.bitOf(e)
			}
			n.said[i] |= w.sayings(replica, k, e.do(k))
		}
		s := &seat{replica: replica, ids: map[spot]int{}, steps: map[[2]int]step{}, sets: map[string]int{}, grown: map[growth]grown{}}
		n.sets[i] = s.setOf([]int{s.spotOf(k, past|n.said[i])})
		w.seats[i] = s
	}
	return w, n
}

// bitOf numbers an event.
func (w *world) bitOf(e event) int {
	if i, there := w.bit[e]; there {
		return i
	}
	i := len(w.events)
	w.events, w.rivals, w.bit[e] = append(w.events, e), append(w.rivals, 0), i
	for j, x := range w.events {
		if x.call == e.call && x.kind == e.kind && x.round == e.round && x.replica == e.replica {
			w.rivals[i] |= 1 << j
			w.rivals[j] |= 1 << i
		}
	}
	return i
}

// sayings is what a core says that wants these. A new proposal is of a hash of the replica's own.
func (w *world) sayings(replica int, k *core.Core, l []core.Act) uint64 {
	var said uint64
	for _, x := range l {
		switch x.Kind {
		case core.ActPropose:
			if x.Hash == zero {
				x.Hash = hashOf(10 + replica)
			}
			e := proposed(x.Round, x.Valid, x.Hash)
			said |= 1<<w.bitOf(e) | w.sayings(replica, k, e.do(k))
		case core.ActPrevote, core.ActPrecommit:
			said |= 1 << w.bitOf(voted(x.Kind-1, x.Round, replica, x.Hash))
		}
	}
	return said
}

func (s *seat) spotOf(k *core.Core, past uint64) int {
	x := spot{k.State(), past}
	if id, there := s.ids[x]; there {
		return id
	}
	s.ids[x] = len(s.spots)
	s.spots, s.cores = append(s.spots, x), append(s.cores, k)
	return s.ids[x]
}

func (s *seat) setOf(l []int) int {
	slices.Sort(l)
	var text strings.Builder
	for _, id := range l {
		text.WriteString(strconv.Itoa(id) + " ")
	}
	set, there := s.sets[text.String()]
	if !there {
		set = len(s.lists)
		s.sets[text.String()], s.lists = set, append(s.lists, l)
	}
	return set
}

// tell tells a core what: an event by its bit, or the end of a timer of the kind that is below 0.
func (w *world) tell(s *seat, id, what int) step {
	key := [2]int{id, what}
	if x, there := s.steps[key]; there {
		return x
	}
	k, past := s.cores[id].Clone(), s.spots[id].past
	e := timeout(-what, k.State().Round)
	if what >= 0 {
		e, past = w.events[what], past|1<<what
	}
	said := w.sayings(s.replica, k, e.do(k))
	x := step{s.spotOf(k, past|said), said}
	s.steps[key] = x
	return x
}

// offers is what a core can be told in a spot: what is tellable and it takes still, and the ends of timers.
func (w *world) offers(x spot, tellable uint64) []int {
	if x.state.Decided {
		return nil
	}
	var l []int
	for rest := tellable; rest != 0; rest &= rest - 1 {
		what := bits.TrailingZeros64(rest)
		if x.past&w.rivals[what] == 0 && w.bears(w.events[what]) {
			l = append(l, what)
		}
	}
	if x.state.Step < 3 {
		l = append(l, -x.state.Step)
	}
	if x.state.Round < w.last {
		l = append(l, -api.TimePrecommit)
	}
	return l
}

// bears tells whether an event is gone through: those of its rounds; behind a decision no votes for none, for what these do the ends of timers do as well.
func (w *world) bears(e event) bool {
	return e.round >= w.first && e.round <= w.last && (w.first == 0 || e.hash != zero)
}

// grow goes on from a set of spots.
func (w *world) grow(s *seat, g growth) grown {
	if got, there := s.grown[g]; there {
		return got
	}
	quiet, loud, decided := map[int]bool{}, map[uint64]map[int]bool{}, map[api.Hash]bool{}
	todo := slices.Clone(s.lists[g.set])
	for len(todo) > 0 {
		id := todo[len(todo)-1]
		todo = todo[:len(todo)-1]
		if quiet[id] {
			continue
		}
		quiet[id] = true
		if x := s.spots[id].state; x.Decided {
			decided[x.Decision] = true
		}
		for _, what := range w.offers(s.spots[id], g.tellable) {
			x := w.tell(s, id, what)
			if x.said == 0 {
				todo = append(todo, x.to)
				continue
			}
			if loud[x.said] == nil {
				loud[x.said] = map[int]bool{}
			}
			loud[x.said][x.to] = true
		}
	}
	got := grown{set: s.setOf(slices.Collect(maps.Keys(quiet))), decided: slices.Collect(maps.Keys(decided)), next: map[uint64]int{}}
	for said, l := range loud {
		got.next[said] = s.setOf(slices.Collect(maps.Keys(l)))
	}
	s.grown[g] = got
	return got
}

// found is what a search went through: the orders, how often a hash was decided, and how often two cores decided unlike ones.
type found struct {
	orders, unlike int
	decided        map[api.Hash]int
}

// search goes through all orders behind n.
func (w *world) search(t *testing.T, n node) found {
	t.Helper()
	f := found{decided: map[api.Hash]int{}}
	seen, todo := map[node]bool{}, []node{n}
	for len(todo) > 0 {
		n := todo[len(todo)-1]
		todo = todo[:len(todo)-1]
		if seen[n] {
			continue
		}
		seen[n] = true
		f.orders++
		todo = append(todo, w.expand(n, &f)...)
	}
	if len(w.events) > 64 {
		t.Fatalf("%d events, which are more than there are bits", len(w.events))
	}
	return f
}

// expand tells the nodes that are one saying farther on.
func (w *world) expand(n node, f *found) []node {
	var out []node
	var all []api.Hash
	var from [3]grown
	for i, s := range w.seats {
		from[i] = w.grow(s, growth{n.sets[i], w.lies | n.said[0] | n.said[1] | n.said[2]})
		n.sets[i] = from[i].set
	}
	for i, got := range from {
		for _, h := range got.decided {
			f.decided[h]++
			// One core's own are each of another order.
			for _, other := range all {
				if other != h {
					f.unlike++
				}
			}
		}
		all = append(all, got.decided...)
		for said, set := range got.next {
			m := n
			m.sets[i], m.said[i] = set, m.said[i]|said
			out = append(out, m)
		}
	}
	return out
}
