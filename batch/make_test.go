package batch_test

import (
	"fmt"
	"math"
	"slices"
	"testing"

	"gavel/api"
	"gavel/batch"
	"gavel/book"
)

// P12.4: the promises

// made is the batch of these.
func made(time uint64, l []api.Promise, openings []api.Opening, tombs []api.Tomb) api.Batch {
	return api.Batch{Epoch: epoch, Time: time, Promises: l, Openings: openings, Tombs: tombs}
}

// wantPromises expects a batch with those promises, or that they are too few.
func wantPromises(t *testing.T, what string, s batch.Base, l, want []api.Promise) {
	t.Helper()
	if len(want) == 0 {
		wantMade(t, what, s, until, l, nil, nil, api.Batch{}, api.ErrQuorum)
		return
	}
	wantMade(t, what, s, until, l, nil, nil, made(until, want, nil, nil), api.OK)
}

func TestMakeOfOrdinaryParts(t *testing.T) {
	for _, f := range []int{1, 2, 7, api.MaxF} {
		b := book.New()
		s, x := good(b, f)
		wantMade(t, "of a batch's own parts", s, until, x.Promises, x.Openings, x.Tombs, x, api.OK)
		wantMade(t, "without openings", s, until, x.Promises, nil, x.Tombs, made(until, x.Promises, nil, x.Tombs), api.OK)
		wantMade(t, "without tombstones", s, until, x.Promises, x.Openings, []api.Tomb{}, made(until, x.Promises, x.Openings, nil), api.OK)
		wantMade(t, "of promises alone", s, until, x.Promises, nil, nil, made(until, x.Promises, nil, nil), api.OK)
		wantMade(t, "of one too few", s, until, x.Promises[1:], x.Openings, x.Tombs, api.Batch{}, api.ErrQuorum)
		wantMade(t, "of one too few at the end", s, until, x.Promises[:2*f], x.Openings, x.Tombs, api.Batch{}, api.ErrQuorum)
		wantMade(t, "of no promises", s, until, nil, x.Openings, x.Tombs, api.Batch{}, api.ErrQuorum)
		s.Logged = nil
		wantMade(t, "where nothing is logged", s, until, x.Promises, x.Openings, x.Tombs, x, api.OK)
	}
	wantMade(t, "the zero base", batch.Base{}, 0, nil, nil, nil, api.Batch{}, api.ErrQuorum)
}

// Each list of up to five promises: three of unlike replicas in the range are needed, the first of each counts.
func TestMakeOfEachListOfPromises(t *testing.T) {
	b := book.New()
	s := baseOf(1)
	pool := promisesOf(b, -1, 0, 1, 2, 3, 4)
	pool = append(pool, promiseOf(b, 1, certAt(b, 1, 1, 1, 150)))
	lists(pool, 5, func(l []api.Promise) {
		var want []api.Promise
		for replica := range 4 {
			if i := slices.IndexFunc(l, func(p api.Promise) bool { return p.Replica == replica }); i >= 0 {
				want = append(want, l[i])
			}
		}
		if len(want) < 3 {
			want = nil
		}
		wantPromises(t, "a list", s, l, want[:min(len(want), 3)])
	})
}

func TestMakeInEveryOrder(t *testing.T) {
	b := book.New()
	s := baseOf(2)
	want := promisesOf(b, 0, 2, 3, 5, 6)
	orders(slices.Clone(want), func(l []api.Promise) { wantPromises(t, "just a quorum", s, l, want) })
	want = promisesOf(b, 1, 2, 3, 4, 5)
	orders(append(slices.Clone(want), promiseOf(b, 6)), func(l []api.Promise) { wantPromises(t, "one more", s, l, want) })
}

func TestMakeOfTheLeastReplicas(t *testing.T) {
	b := book.New()
	for f := 1; f <= api.MaxF; f++ {
		n, s := 3*f+1, baseOf(f)
		all := promisesOf(b, upTo(n)...)
		for size := range n + 1 {
			first, back := all[:size], all[n-size:]
			down := slices.Clone(back)
			slices.Reverse(down)
			if size < 2*f+1 {
				wantPromises(t, "too few", s, first, nil)
				wantPromises(t, "too few, falling", s, down, nil)
				continue
			}
			wantPromises(t, "of the first", s, first, first[:2*f+1])
			wantPromises(t, "of the last", s, back, back[:2*f+1])
			wantPromises(t, "falling", s, down, back[:2*f+1])
		}
	}
}

// A promise that does not count takes no place: not of another epoch or floor, not a later one of its replica.
func TestMakeLeavesOutPromises(t *testing.T) {
	b := book.New()
	s := baseOf(1)
	good := promisesOf(b, 0, 1, 2, 3)
	of := func(replica, number int, floor uint64) api.Promise {
		return promiseBy(b, replica, api.Promise{Replica: replica, Epoch: number, Floor: floor})
	}
	for i := range 3 {
		for what, p := range map[string]api.Promise{
			"of the epoch ahead":    of(i, epoch-1, until),
			"of the epoch behind":   of(i, epoch+1, until),
			"of no epoch":           of(i, -1, until),
			"of another floor":      of(i, epoch, until+1),
			"of a lower floor":      of(i, epoch, until-1),
			"of the floor last":     of(i, epoch, last),
			"of the end of time":    of(i, epoch, end),
			"of the floor 0":        of(i, epoch, 0),
			"of neither":            of(i, epoch+1, until+1),
			"of a replica below 0":  of(-1, epoch, until),
			"of one far below 0":    of(math.MinInt, epoch, until),
			"of a replica past all": of(4, epoch, until),
			"of one far past all":   of(math.MaxInt, epoch, until),
			"of a client":           of(api.ClientBase, epoch, until),
		} {
			three := slices.Clone(good[:3])
			three[i] = p
			wantPromises(t, what+", for one of three", s, three, nil)
			wantPromises(t, what+", ahead of all", s, append([]api.Promise{p}, good...), good[:3])
			wantPromises(t, what+", behind all", s, append(slices.Clone(good[:3]), p), good[:3])
			wantPromises(t, what+", for one of four", s, append(three, good[3]), slices.Delete(slices.Clone(good), i, i+1))
		}
	}
}

func TestMakeOfTheFirstOfEachReplica(t *testing.T) {
	b := book.New()
	s := baseOf(1)
	// Three unlike promises of each of four replicas.
	var first, second, third []api.Promise
	for i := range 4 {
		first = append(first, promiseOf(b, i))
		second = append(second, promiseOf(b, i, certAt(b, 1, 1, 1, 150)))
		third = append(third, promiseOf(b, i, certAt(b, 2, 1, 1, 150)))
	}
	wantPromises(t, "one by one", s, slices.Concat(first, second, third), first[:3])
	wantPromises(t, "the other way round", s, slices.Concat(third, second, first), third[:3])
	for i := range 4 {
		mixed := slices.Clone(first)
		mixed[i] = second[i]
		wantPromises(t, "another one first", s, append([]api.Promise{second[i]}, first...), mixed[:3])
		wantPromises(t, "several of it alone", s, []api.Promise{first[i], second[i], third[i], first[i]}, nil)
		wantPromises(t, "several of two", s, []api.Promise{first[i], second[i], third[(i+1)%4], first[(i+1)%4]}, nil)
	}
	other := promiseBy(b, 0, api.Promise{Replica: 0, Epoch: epoch, Floor: until + 1})
	wantPromises(t, "of another floor first", s, slices.Concat([]api.Promise{other}, second[:1], first), append(second[:1:1], first[1:3]...))
}

// Nothing is asked of the time, of the epoch, or of what was signed: that is Valid's.
func TestMakeOfOtherTimesAndEpochs(t *testing.T) {
	for _, time := range []uint64{0, 1, last - 1, last, last + 1, 1 << 63, end - 1, end} {
		for _, number := range []int{math.MinInt, -1, 0, api.MaxEpoch, api.MaxEpoch + 1, math.MaxInt} {
			var l []api.Promise
			for _, r := range []int{3, 1, 0} {
				l = append(l, api.Promise{Replica: r, Epoch: number, Floor: time})
			}
			s := baseOf(1)
			s.Epoch = number
			slices.Reverse(l)
			x := api.Batch{Epoch: number, Time: time, Promises: l}
			wantMade(t, fmt.Sprint("epoch ", number, ", time ", time), s, time, l, nil, nil, x, api.OK)
			wantMade(t, "of another time", s, time+1, l, nil, nil, api.Batch{}, api.ErrQuorum)
			s.Epoch++
			wantMade(t, "of another epoch", s, time, l, nil, nil, api.Batch{}, api.ErrQuorum)
		}
	}
}

func TestMakeAsksForNoSignature(t *testing.T) {
	s := baseOf(1, 3)
	l := []api.Promise{{Replica: 0}, {Replica: 1, Certs: []api.Cert{{}, {}}}, {Replica: 3, Sig: api.Sig{By: 9, Mark: 9}}}
	for i := range l {
		l[i].Epoch, l[i].Floor = epoch, until
	}
	tombs := []api.Tomb{{Index: 3, Denies: []api.Deny{{Replica: 7, Index: 9}, {Replica: 7, Index: 9}}}}
	wantMade(t, "not signed", s, until, l, nil, tombs, made(until, l, nil, tombs), api.OK)
}

// Configurations that may not be go by their numbers: of F 0 one replica is a quorum; below it, and where a quorum is no int, there is none.
func TestMakeOfOtherConfigurations(t *testing.T) {
	b := book.New()
	for _, f := range []int{math.MinInt, math.MinInt + 1, math.MinInt / 2, math.MinInt/2 + 1, -22, -2, -1, 1 << 62, 1<<62 + 1, math.MaxInt/2 + 1, math.MaxInt} {
		for n := range 5 {
			s := baseOf(1, 3)
			s.Conf.F = f
			wantPromises(t, fmt.Sprint("F ", f), s, promisesOf(b, upTo(n)...), nil)
			wantPromises(t, fmt.Sprint("F ", f, ", replicas past all"), s, promisesOf(b, from(1<<40, n)...), nil)
			wantPromises(t, fmt.Sprint("F ", f, ", replicas below 0"), s, promisesOf(b, from(-9, n)...), nil)
		}
	}
	for _, clients := range []int{math.MinInt, 0, 101} {
		s := baseOf(1)
		s.Conf = api.Conf{Clients: clients}
		wantPromises(t, "F 0", s, promisesOf(b, 0), promisesOf(b, 0))
		wantPromises(t, "F 0, others beside it", s, promisesOf(b, -1, 1, 2, 0, 0), promisesOf(b, 0))
		wantPromises(t, "F 0, others", s, promisesOf(b, -1, 1, 2), nil)
		s.Conf.F = 22
		wantPromises(t, "F 22", s, promisesOf(b, upTo(67)...), promisesOf(b, upTo(45)...))
		wantPromises(t, "F 22, too few", s, promisesOf(b, from(23, 60)...), nil)
	}
}
