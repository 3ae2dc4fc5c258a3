package stamp_test

import (
	"fmt"
	"math/big"
	"math/rand"
	"testing"

	"gavel/api"
	"gavel/book"
	"gavel/stamp"
)

// P9.1, P9.2: many orders, each step held against a plain stamper.

// plain is a stamper told another way: all that was ever said to it, in numbers without bounds.
type plain struct {
	clock  *big.Int
	floors []uint64
	given  []api.Stamp
}

func newPlain() *plain {
	return &plain{clock: new(big.Int), floors: []uint64{0}}
}

func number(n uint64) *big.Int { return new(big.Int).SetUint64(n) }

func (p *plain) tick(n uint64) {
	p.clock.Add(p.clock, number(n))
	if p.clock.Cmp(number(end)) > 0 {
		p.clock = number(end)
	}
}

func (p *plain) raise(to uint64) api.Errno {
	if to == end {
		return api.ErrTime
	}
	p.floors = append(p.floors, to)
	return api.OK
}

func (p *plain) floor() uint64 {
	most := uint64(0)
	for _, f := range p.floors {
		most = max(most, f)
	}
	return most
}

// time is the least one that is not below the clock, and above all floors and all times that there were; false: that is the end of time, or past it.
func (p *plain) time() (uint64, bool) {
	time := new(big.Int).Set(p.clock)
	above := func(n uint64) {
		if time.Cmp(number(n)) <= 0 {
			time.Add(number(n), big.NewInt(1))
		}
	}
	above(0)
	for _, f := range p.floors {
		above(f)
	}
	for _, x := range p.given {
		above(x.Time)
	}
	return time.Uint64(), time.Cmp(number(end)) < 0
}

// stamp answers as the chapter says of a commitment that is right; mark is that of the next signature.
func (p *plain) stamp(x api.Commit, mark int) (api.Stamp, api.Errno) {
	for _, old := range p.given {
		if old.Name == x.Name && old.Hash == x.Hash {
			return old, api.OK
		}
		if old.Name == x.Name {
			return api.Stamp{}, api.ErrThere
		}
	}
	time, ok := p.time()
	if !ok {
		return api.Stamp{}, api.ErrTime
	}
	got := api.Stamp{Replica: 2, Name: x.Name, Hash: x.Hash, Time: time, Sig: api.Sig{By: 2, Mark: mark}}
	p.given = append(p.given, got)
	return got, api.OK
}

// of tells what a name was stamped with.
func (p *plain) of(n api.Name) (api.Hash, uint64, bool) {
	for _, x := range p.given {
		if x.Name == n {
			return x.Hash, x.Time, true
		}
	}
	return api.Hash{}, 0, false
}

// Kinds of steps.
const (
	ticks = iota
	raises
	stamps
	wrongs // a Stamp of what is not right
	clones // the clone goes on in the place of the stamper, which is spoilt
)

// Of what a step's number is so much more.
const (
	ofNothing = iota
	ofClock
	ofFloor
	ofLast
	ofEnd
)

// step is one call. A Tick goes to that time (past the end, if that is behind the clock), a Raise too; of a commitment n tells which one.
type step struct {
	kind, of int
	n        int
}

func (s step) String() string {
	name := [...]string{"Tick to", "Raise to", "Stamp of", "Stamp of what is not right", "Clone"}[s.kind]
	return fmt.Sprint(name, [...]string{"", " clock", " floor", " last", " end"}[s.of], " ", s.n)
}

// time is the time that the step names.
func (s step) time(p *plain) uint64 {
	from := uint64(0)
	switch s.of {
	case ofClock:
		from = p.clock.Uint64()
	case ofFloor:
		from = p.floor()
	case ofLast:
		for _, x := range p.given {
			from = x.Time // the times rise
		}
	case ofEnd:
		from = end
	}
	return from + uint64(s.n)
}

// game is what an order of steps is played with: requests of some names, each with three hashes, the last of them once more with another length.
type game struct {
	book     *book.Book
	requests []api.Commit
}

func newGame(names int) *game {
	g := &game{book: book.New()}
	for i := range names {
		for salt := range 3 {
			g.requests = append(g.requests, request(g.book, i%3, i/3+1, salt))
		}
		x := g.requests[len(g.requests)-1]
		x.Len++
		g.requests = append(g.requests, signed(g.book, x.Sig.By, x))
	}
	return g
}

// do does the step on both, and tells which stamper goes on and what both answered.
func (g *game) do(x step, b *book.Book, s *stamp.Stamper, p *plain) (next *stamp.Stamper, got, want string) {
	request := g.requests[max(x.n, 0)%len(g.requests)]
	switch x.kind {
	case ticks:
		n := x.time(p) - p.clock.Uint64()
		s.Tick(n)
		p.tick(n)
	case raises:
		to := x.time(p)
		got, want = fmt.Sprint(s.Raise(to)), fmt.Sprint(p.raise(to))
	case stamps:
		want = fmt.Sprint(p.stamp(request, b.Len()+1))
		got = fmt.Sprint(s.Stamp(b, request))
	case wrongs:
		request.Sig.Mark++
		got, want = fmt.Sprint(s.Stamp(b, request)), fmt.Sprint(api.Stamp{}, api.ErrSig)
	case clones:
		c := s.Clone()
		for _, request := range g.requests {
			s.Stamp(b.Clone(), request)
		}
		s.Raise(end - 1)
		s.Tick(end)
		return c, "", ""
	}
	return s, got, want
}

// told is all that a stamper tells without stamping.
func (g *game) told(now, floor uint64, n int, of func(api.Name) (api.Hash, uint64, bool)) string {
	s := fmt.Sprint(now, floor, n)
	for i := 0; i < len(g.requests); i += 4 {
		h, time, ok := of(g.requests[i].Name)
		s += fmt.Sprint(" ", h[0], h[31], time, ok)
	}
	return s
}

// play does all steps on a new stamper, and tells the first one whose answer, or the state behind it, is another one than the plain stamper's.
func (g *game) play(t *testing.T, steps []step) (fault string) {
	b, s, p := g.book.Clone(), fresh(t, conf, 2), newPlain()
	for i, x := range steps {
		var got, want string
		s, got, want = g.do(x, b, s, p)
		got += " " + g.told(s.Now(), s.Floor(), s.Len(), s.Of)
		want += " " + g.told(p.clock.Uint64(), p.floor(), len(p.given), p.of)
		if marks := g.book.Len() + len(p.given); got != want || b.Len() != marks {
			return fmt.Sprintf("%v, step %d: %s, %d signatures, want %s, %d", x, i, got, b.Len(), want, marks)
		}
	}
	return ""
}

func TestEachOrderOfAFewSteps(t *testing.T) {
	all := []step{
		{ticks, ofClock, 0}, {ticks, ofClock, 1}, {ticks, ofLast, 3}, {ticks, ofEnd, -1}, {ticks, ofEnd, 0},
		{raises, ofNothing, 0}, {raises, ofFloor, 1}, {raises, ofClock, 0}, {raises, ofLast, 1}, {raises, ofEnd, -2}, {raises, ofEnd, -1}, {raises, ofEnd, 0},
		{stamps, 0, 0}, {stamps, 0, 2}, {stamps, 0, 3}, {stamps, 0, 4}, {wrongs, 0, 0}, {clones, 0, 0},
	}
	const most = 3
	g := newGame(3)
	steps := []step{most: {stamps, 0, 2}, most + 1: {stamps, 0, 9}}
	var from func(at int)
	from = func(at int) {
		if at == most {
			if fault := g.play(t, steps); fault != "" {
				t.Fatalf("%v: %s", steps, fault)
			}
			return
		}
		for _, x := range all {
			steps[at] = x
			from(at + 1)
		}
	}
	from(0)
}

// anyStep tells a step; the end of time comes but seldom.
func anyStep(r *rand.Rand) step {
	times := func(kind int) step {
		if r.Intn(60) == 0 {
			return step{kind, ofEnd, r.Intn(8) - 7}
		}
		return step{kind, r.Intn(ofEnd-1) + 1, r.Intn(4)}
	}
	switch x := r.Intn(100); {
	case x < 25:
		return times(ticks)
	case x < 45:
		return times(raises)
	case x < 50:
		return step{raises, ofFloor, -r.Intn(4)}
	case x < 90:
		return step{kind: stamps, n: r.Intn(48)}
	case x < 95:
		return step{kind: wrongs, n: r.Intn(48)}
	}
	return step{kind: clones}
}

func TestManyLongOrders(t *testing.T) {
	r := rand.New(rand.NewSource(9))
	g := newGame(12)
	for i := range 1000 {
		steps := make([]step, 60)
		for j := range steps {
			steps[j] = anyStep(r)
		}
		if fault := g.play(t, steps); fault != "" {
			t.Fatalf("order %d, %v: %s", i, steps, fault)
		}
	}
}
