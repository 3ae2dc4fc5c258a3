package lock_test

import (
	"cmp"
	"fmt"
	"math/rand"
	"slices"
	"testing"

	"gavel/api"
	"gavel/book"
	"gavel/lock"
)

// P11.1, P11.2: many orders, each step held against a plain table.

// plain is a table of replica 2 told another way: a list of what it holds, in the order in which it came, with the acks.
type plain struct {
	certs []api.Cert
	acks  []api.Ack
}

// find tells where the certificate of n is; below 0: nowhere.
func (p *plain) find(n api.Name) int {
	return slices.IndexFunc(p.certs, func(x api.Cert) bool { return x.Commit.Name == n })
}

// take answers as the chapter says of a certificate that is right.
func (p *plain) take(b *book.Book, floor uint64, x api.Cert) (api.Ack, api.Errno) {
	median := medianOf(x)
	if i := p.find(x.Commit.Name); i >= 0 {
		if p.certs[i].Commit.Hash == x.Commit.Hash && medianOf(p.certs[i]) == median {
			return p.acks[i], api.OK
		}
		return api.Ack{}, api.ErrThere
	}
	if median <= floor {
		return api.Ack{}, api.ErrTime
	}
	if len(p.certs) == 64 {
		return api.Ack{}, api.ErrLimit
	}
	a := ackBy(b, 2, api.Ack{Replica: 2, Name: x.Commit.Name, Hash: x.Commit.Hash, Median: median})
	p.certs, p.acks = append(p.certs, x), append(p.acks, a)
	return a, api.OK
}

// held tells all by rising names.
func (p *plain) held() []api.Cert {
	return slices.SortedFunc(slices.Values(p.certs), func(x, y api.Cert) int {
		const most = api.MaxSeq + 1
		return cmp.Compare(x.Commit.Name.Client*most+x.Commit.Name.Seq, y.Commit.Name.Client*most+y.Commit.Name.Seq)
	})
}

func (p *plain) forget(l ...api.Name) int {
	n := 0
	for _, x := range l {
		if i := p.find(x); i >= 0 {
			p.certs, p.acks = slices.Delete(p.certs, i, i+1), slices.Delete(p.acks, i, i+1)
			n++
		}
	}
	return n
}

// promise answers as the chapter says of an epoch that may be.
func (p *plain) promise(b *book.Book, epoch int, last, time uint64) (api.Promise, api.Errno) {
	if time <= last || time == end {
		return api.Promise{}, api.ErrTime
	}
	return promiseBy(b, 2, api.Promise{Replica: 2, Epoch: epoch, Floor: time, Certs: chosen(p.held(), last, time)}), api.OK
}

// Kinds of steps.
const (
	takes    = iota
	wrongs   // a Take of what is not right
	forgets  // n and m
	promised // above the time n, up to the time m
	clones   // the clone goes on in the place of the table, which is spoilt
)

// step is one call. n and m are numbers of certificates, or times; a Take is with the floor m.
type step struct{ kind, n, m int }

func (s step) String() string {
	return fmt.Sprint([...]string{"Take ", "Take of what is not right ", "Forget ", "Promise ", "Clone "}[s.kind], s.n, " ", s.m)
}

// game is what an order of steps is played with: certificates of each name with two hashes, each of them with two times.
type game struct {
	book  *book.Book
	certs []api.Cert
}

func newGame(names int) *game {
	g := &game{book: book.New()}
	for i := range names {
		for salt := range 2 {
			x := request(g.book, i%3, i/3+1, salt)
			g.certs = append(g.certs, certOf(g.book, 1, x, uint64(i%7+1)), certOf(g.book, 1, x, uint64(i%5+3)))
		}
	}
	return g
}

// do does the step on both, in a book each, and tells which table goes on and what both answered.
func (g *game) do(s step, b *book.Book, table *lock.Table, plainBook *book.Book, p *plain) (next *lock.Table, got, want string) {
	x, y := g.certs[s.n%len(g.certs)], g.certs[s.m%len(g.certs)]
	switch s.kind {
	case takes:
		got, want = fmt.Sprint(table.Take(b, uint64(s.m), x)), fmt.Sprint(p.take(plainBook, uint64(s.m), x))
	case wrongs:
		x = turned(x, func(x *api.Cert) { x.Stamps[s.m%3].Time++ })
		got, want = fmt.Sprint(table.Take(b, 0, x)), fmt.Sprint(api.Ack{}, api.ErrSig)
	case forgets:
		l := []api.Name{x.Commit.Name, y.Commit.Name, x.Commit.Name}
		got, want = fmt.Sprint(table.Forget(l...)), fmt.Sprint(p.forget(l...))
	case promised:
		last, time := uint64(s.n), uint64(s.m)
		got, want = fmt.Sprint(table.Promise(b, s.n, last, time)), fmt.Sprint(p.promise(plainBook, s.n, last, time))
	case clones:
		c, other := table.Clone(), b.Clone()
		table.Forget(x.Commit.Name)
		for _, x := range g.certs {
			table.Take(other, 0, x)
		}
		table.Forget(y.Commit.Name)
		return c, "", ""
	}
	return table, got, want
}

// play does all steps on a new table, and tells the first one whose answer, or the state behind it, is another one than the plain table's.
func (g *game) play(t *testing.T, steps []step) (fault string) {
	b, plainBook, table, p := g.book.Clone(), g.book.Clone(), fresh(t, conf, 2), &plain{}
	for i, s := range steps {
		var got, want string
		table, got, want = g.do(s, b, table, plainBook, p)
		held := table.Held()
		if got != want || b.Len() != plainBook.Len() || !sameCerts(held, p.held()) || table.Len() != len(held) {
			return fmt.Sprintf("%v, step %d: %s, %d signatures, %d held; want %s, %d, %d", s, i, brief(got), b.Len(), len(held), brief(want), plainBook.Len(), len(p.certs))
		}
		x := g.certs[s.n%len(g.certs)].Commit.Name
		if one, ok := table.Get(x); ok != (p.find(x) >= 0) || ok && !sameCert(one, p.certs[p.find(x)]) {
			return fmt.Sprintf("%v, step %d: Get of %v: %s, %v", s, i, x, brief(one), ok)
		}
	}
	return ""
}

func TestEachOrderOfAFewSteps(t *testing.T) {
	all := []step{
		{takes, 0, 0}, {takes, 1, 0}, {takes, 2, 0}, {takes, 4, 1}, {takes, 4, 2}, {takes, 5, 3}, {takes, 5, 4}, {takes, 9, 0},
		{wrongs, 0, 0}, {wrongs, 4, 1}, {forgets, 0, 0}, {forgets, 4, 1}, {promised, 0, 1}, {promised, 1, 3}, {promised, 3, 9}, {promised, 4, 4}, {clones, 0, 4},
	}
	const most = 3
	g := newGame(3)
	steps := []step{most: {promised, 0, 20}}
	var from func(at int)
	from = func(at int) {
		if at == most {
			if fault := g.play(t, steps); fault != "" {
				t.Fatalf("%v: %s", steps, fault)
			}
			return
		}
		for _, x := range all {
			steps[at] = x
			from(at + 1)
		}
	}
	from(0)
}

// anyStep tells a step; most of them take, so that tables fill.
func anyStep(r *rand.Rand) step {
	n, m := r.Intn(1000), r.Intn(1000)
	switch x := r.Intn(100); {
	case x < 70:
		return step{takes, n, r.Intn(4)}
	case x < 75:
		return step{takes, n, r.Intn(12)}
	case x < 80:
		return step{wrongs, n, m}
	case x < 85:
		return step{forgets, n, m}
	case x < 95:
		return step{promised, r.Intn(8), r.Intn(12)}
	}
	return step{clones, n, m}
}

func TestManyLongOrders(t *testing.T) {
	r := rand.New(rand.NewSource(11))
	full := 0
	for i, names := range []int{3, 10, 70, 80, 100} {
		g := newGame(names)
		for range 12 {
			steps := make([]step, 400)
			for j := range steps {
				steps[j] = anyStep(r)
			}
			if fault := g.play(t, steps); fault != "" {
				t.Fatalf("game %d: %s", i, fault)
			}
			full += g.fills(steps)
		}
	}
	if full < 10 {
		t.Errorf("only %d orders fill a table", full)
	}
}

// fills tells 1, if the order asks a full table to hold one more.
func (g *game) fills(steps []step) int {
	p, b := &plain{}, g.book.Clone()
	for _, s := range steps {
		x := g.certs[s.n%len(g.certs)]
		switch s.kind {
		case takes:
			if _, e := p.take(b, uint64(s.m), x); e == api.ErrLimit {
				return 1
			}
		case forgets:
			p.forget(x.Commit.Name, g.certs[s.m%len(g.certs)].Commit.Name)
		}
	}
	return 0
}
