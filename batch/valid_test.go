package batch_test

import (
	"fmt"
	"math"
	"slices"
	"testing"

	"gavel/api"
	"gavel/batch"
	"gavel/book"
)

// P12.3: the epoch, the time, the promises

// good is a valid batch of the epoch, of f faults, with certificates, openings of the indexes 3 and 8, tombstones of 2, 5 and 9, and what it is held against (6 stays open).
func good(b *book.Book, f int) (batch.Base, api.Batch) {
	s := baseOf(f, 2, 3, 5, 6, 8, 9)
	x := api.Batch{Epoch: epoch, Time: until, Openings: openingsAt(3, 8)}
	for i := range 2*f + 1 {
		l := []api.Cert{certOf(b, f, request(b, 0, 5, 1), 150), certOf(b, f, request(b, 1, 5, 2), uint64(101+i)), certOf(b, f, request(b, 2, 1, 3), until)}
		x.Promises = append(x.Promises, promiseOf(b, i, l[i%3:]...))
	}
	for _, i := range []int{2, 5, 9} {
		x.Tombs = append(x.Tombs, tombOf(b, i, from(f, 2*f+1)...))
	}
	return s, x
}

// plain is a batch of promises alone, of the epoch and the time given, signed.
func plain(b *book.Book, number int, time uint64) api.Batch {
	x := api.Batch{Epoch: number, Time: time}
	for i := range 3 {
		x.Promises = append(x.Promises, promiseBy(b, i, api.Promise{Replica: i, Epoch: number, Floor: time}))
	}
	return x
}

func TestValidOfOrdinaryBatches(t *testing.T) {
	for _, f := range []int{1, 2, 7, api.MaxF} {
		b := book.New()
		s, x := good(b, f)
		wantValid(t, "as it is", b, s, x, true)
		wantValid(t, "in a clone", b.Clone(), s, x, true)
		wantValid(t, "in a book without the signatures", book.New(), s, x, false)
		y := x
		y.Openings = nil
		wantValid(t, "without openings", b, s, y, true)
		y.Tombs = []api.Tomb{}
		wantValid(t, "without tombstones either", b, s, y, true)
		wantValid(t, "where nothing is open", b, baseOf(f), y, true)
		y.Promises = nil
		wantValid(t, "without promises", b, s, y, false)
		y = x
		y.Promises = nil
		wantValid(t, "without promises, with openings", b, s, y, false)
		for other := 1; other <= api.MaxF; other++ {
			s.Conf = confOf(other)
			wantValid(t, "for as many faults", b, s, x, other == f)
		}
	}
	wantValid(t, "the zero batch", book.New(), batch.Base{}, api.Batch{}, false)
	wantValid(t, "the zero batch, where it may be", book.New(), batch.Base{Conf: conf}, api.Batch{Time: 1}, false)
}

// What is logged, and which certificates the promises have, bears on the entries alone.
func TestValidAsksNothingOfWhatIsLogged(t *testing.T) {
	b := book.New()
	s, x := good(b, 1)
	for _, logged := range []map[api.Name]bool{nil, {}, {name(0, 5): true, name(1, 5): true}, {nameAt(3): false}} {
		s.Logged = logged
		wantValid(t, "logged", b, s, x, true)
	}
	s.Logged = nil
	early := []api.Cert{certAt(b, 0, 5, 1, 1), certAt(b, 1, 5, 1, last), certAt(b, 1, 6, 1, last+1)}
	x.Promises[1] = promiseOf(b, 1, early...)
	wantValid(t, "certificates that are past", b, s, x, true)
}

func TestValidOfEpochs(t *testing.T) {
	b := book.New()
	numbers := []int{math.MinInt, -1, 0, 1, 2, 127, 128, api.MaxEpoch - 1, api.MaxEpoch, api.MaxEpoch + 1, 1 << 32, math.MaxInt}
	for _, of := range numbers {
		x := plain(b, of, until)
		for _, at := range numbers {
			s := baseOf(1)
			s.Epoch = at
			wantValid(t, fmt.Sprint("in epoch ", at), b, s, x, of == at && of >= 0 && of <= api.MaxEpoch)
		}
	}
}

// The batch and each of its promises is of the epoch.
func TestValidOfUnlikeEpochs(t *testing.T) {
	b := book.New()
	s := baseOf(1)
	for _, of := range []int{epoch - 1, epoch, epoch + 1} {
		x := plain(b, epoch, until)
		x.Epoch = of
		wantValid(t, "promises of the epoch, a batch of that", b, s, x, of == epoch)
		x = plain(b, of, until)
		x.Epoch = epoch
		wantValid(t, "a batch of the epoch, promises of that", b, s, x, of == epoch)
		for i := range 3 {
			x = plain(b, epoch, until)
			x.Promises[i] = plain(b, of, until).Promises[i]
			wantValid(t, "one promise of that", b, s, x, of == epoch)
		}
	}
}

func TestValidOfTimes(t *testing.T) {
	b := book.New()
	times := []uint64{0, 1, 2, 99, 100, 101, 127, 128, 1 << 32, 1<<63 - 1, 1 << 63, end - 2, end - 1, end}
	for _, time := range times {
		x := plain(b, epoch, time)
		for _, lastTime := range times {
			s := baseOf(1)
			s.Last = lastTime
			wantValid(t, fmt.Sprint("behind ", lastTime), b, s, x, time > lastTime && time != end)
		}
	}
}

// Each promise's floor is the batch's time.
func TestValidOfUnlikeTimes(t *testing.T) {
	b := book.New()
	s := baseOf(1)
	for _, time := range []uint64{0, last, last + 1, until - 1, until, until + 1, end - 1, end} {
		x := plain(b, epoch, until)
		x.Time = time
		wantValid(t, "a batch of that time", b, s, x, time == until)
		for i := range 3 {
			x = plain(b, epoch, until)
			x.Promises[i] = plain(b, epoch, time).Promises[i]
			wantValid(t, "one promise of that floor", b, s, x, time == until)
		}
	}
}

// Each list of up to four promises of replicas in and out of the range: just three rising ones may be.
func TestValidOfEachListOfPromises(t *testing.T) {
	b := book.New()
	s := baseOf(1)
	lists(promisesOf(b, -1, 0, 1, 2, 3, 4), 4, func(l []api.Promise) {
		var n []int
		for _, p := range l {
			n = append(n, p.Replica)
		}
		want := len(l) == 3 && rising(n) && n[0] >= 0 && n[2] <= 3
		wantValid(t, "a list", b, s, api.Batch{Epoch: epoch, Time: until, Promises: l}, want)
	})
}

func TestValidOfQuorums(t *testing.T) {
	b := book.New()
	for f := 1; f <= api.MaxF; f++ {
		n, s := 3*f+1, baseOf(f)
		for size := range n + 3 {
			x := api.Batch{Epoch: epoch, Time: until, Promises: promisesOf(b, upTo(size)...)}
			wantValid(t, "of the first", b, s, x, size == 2*f+1)
			x.Promises = promisesOf(b, from(n-size, size)...)
			wantValid(t, "of the last", b, s, x, size == 2*f+1)
		}
		x := api.Batch{Epoch: epoch, Time: until, Promises: promisesOf(b, from(f+1, 2*f+1)...)}
		wantValid(t, "one past the last", b, s, x, false)
		x.Promises = promisesOf(b, upTo(2*f+1)...)
		slices.Reverse(x.Promises)
		wantValid(t, "falling", b, s, x, false)
	}
}

func TestValidWithOnePromiseOutOfOrder(t *testing.T) {
	b := book.New()
	s := baseOf(7)
	x := api.Batch{Epoch: epoch, Time: until}
	all := promisesOf(b, from(5, 15)...)
	for i := range 14 {
		x.Promises = slices.Clone(all)
		x.Promises[i], x.Promises[i+1] = all[i+1], all[i]
		wantValid(t, "two the other way round", b, s, x, false)
		x.Promises = slices.Clone(all)
		x.Promises[i+1] = all[i]
		wantValid(t, "one twice", b, s, x, false)
		x.Promises = slices.Insert(slices.Clone(all), i, all[i])
		wantValid(t, "one twice beside all others", b, s, x, false)
	}
	x.Promises = all
	wantValid(t, "as they were", b, s, x, true)
}

// Two unlike promises of one replica are one too many, also where both are right.
func TestValidOfTwoPromisesOfOneReplica(t *testing.T) {
	b := book.New()
	s := baseOf(1)
	l := promisesOf(b, 0, 1, 2)
	l[1] = promiseOf(b, 0, certAt(b, 1, 1, 1, 150))
	wantValid(t, "two of the first", b, s, api.Batch{Epoch: epoch, Time: until, Promises: l}, false)
	l = append(promisesOf(b, 0, 1, 2), promiseOf(b, 2, certAt(b, 1, 1, 1, 150)))
	wantValid(t, "two of the last", b, s, api.Batch{Epoch: epoch, Time: until, Promises: l}, false)
	wantValid(t, "each of its own", b, s, api.Batch{Epoch: epoch, Time: until, Promises: slices.Delete(l, 2, 3)}, true)
}

// Each promise is asked for by itself, with all that is in it.
func TestValidWithOnePromiseSpoilt(t *testing.T) {
	b := book.New()
	for _, f := range []int{1, 3} {
		for i := range 2*f + 1 {
			spoil := func(what string, want bool, do func(*api.Promise)) {
				s, x := good(b, f)
				do(&x.Promises[i])
				wantValid(t, what, b, s, x, want)
			}
			again := func(p *api.Promise) { *p = promiseBy(b, i, *p) }
			spoil("signed once more", true, again)
			spoil("not signed", false, func(p *api.Promise) { p.Sig = api.Sig{} })
			spoil("another mark", false, func(p *api.Promise) { p.Sig.Mark++ })
			spoil("signed by another one", false, func(p *api.Promise) { *p = promiseBy(b, i+1, *p) })
			spoil("a certificate less than was signed", false, func(p *api.Promise) { p.Certs = p.Certs[1:] })
			spoil("a certificate less", true, func(p *api.Promise) { p.Certs = p.Certs[1:]; again(p) })
			spoil("no certificates", true, func(p *api.Promise) { p.Certs = nil; again(p) })
			spoil("a certificate twice", false, func(p *api.Promise) { p.Certs = append(p.Certs, p.Certs[len(p.Certs)-1]); again(p) })
			spoil("a certificate above the floor", false, func(p *api.Promise) {
				p.Certs = []api.Cert{certOf(b, f, request(b, 0, 1, 1), until+1)}
				again(p)
			})
			spoil("a certificate at the floor", true, func(p *api.Promise) {
				p.Certs = []api.Cert{certOf(b, f, request(b, 0, 1, 1), until)}
				again(p)
			})
			spoil("a certificate of a stamp too few", false, func(p *api.Promise) {
				p.Certs[0].Stamps = p.Certs[0].Stamps[1:]
				again(p)
			})
			spoil("a certificate of no client", false, func(p *api.Promise) {
				p.Certs = []api.Cert{certOf(b, f, request(b, 3, 1, 1), 150)}
				again(p)
			})
			spoil("the next epoch, not signed", false, func(p *api.Promise) { p.Epoch++ })
			spoil("the next time, not signed", false, func(p *api.Promise) { p.Floor++ })
		}
	}
}

// Configurations that may not be go by their numbers.
func TestValidOfOtherConfigurations(t *testing.T) {
	b := book.New()
	for _, f := range []int{math.MinInt, math.MinInt + 1, math.MinInt / 2, -2, -1, 0, 22, 1 << 62, math.MaxInt} {
		for n := range 5 {
			s := baseOf(1, 3)
			s.Conf.F = f
			x := api.Batch{Epoch: epoch, Time: until, Promises: promisesOf(b, upTo(n)...), Openings: openingsAt(3)}
			wantValid(t, fmt.Sprint("F ", f), b, s, x, f == 0 && n == 1)
		}
	}
	s := baseOf(22)
	x := api.Batch{Epoch: epoch, Time: until, Promises: promisesOf(b, upTo(45)...)}
	wantValid(t, "F 22", b, s, x, true)
	s.Conf.Clients = 0
	wantValid(t, "no clients", b, s, x, true)
	x.Promises[44] = promiseOf(b, 44, certOf(b, 22, request(b, 0, 1, 1), 150))
	wantValid(t, "no clients, a certificate", b, s, x, false)
	s.Conf.Clients = 1000
	wantValid(t, "more clients", b, s, x, true)
}
