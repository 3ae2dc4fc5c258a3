package cert_test

import (
	"math/rand"
	"slices"
	"testing"

	"gavel/api"
	"gavel/book"
	"gavel/cert"
	"gavel/stamp"
)

// P10.3: with at most F of its replicas lying, a certificate's time lies between two times of replicas that do not. By Median, Time, RightStamp, Right, Make.

// wantBetween expects that time is neither below all of these nor above all of them.
func wantBetween(t *testing.T, what string, time uint64, honest []uint64) {
	t.Helper()
	if time < slices.Min(honest) || time > slices.Max(honest) {
		t.Fatalf("%s: the time %d is not between %d and %d", what, time, slices.Min(honest), slices.Max(honest))
	}
}

func TestMedianWithLies(t *testing.T) {
	lies := []uint64{0, 1, 9, 10, 11, 1 << 63, end - 1, end}
	lists([]uint64{9, 10, 11}, 2, func(honest []uint64) {
		for _, lie := range lies {
			for _, l := range orders(append([]uint64{lie}, honest...)) {
				got, ok := cert.Median(l...)
				wantBetween(t, "one of three lies", got, honest)
				if !ok {
					t.Fatalf("%v has no median", l)
				}
			}
		}
	})
	r := rand.New(rand.NewSource(4))
	for range 5000 {
		f := 1 + r.Intn(api.MaxF)
		var honest []uint64
		for range f + 1 {
			honest = append(honest, 1000+uint64(r.Intn(5)))
		}
		l := slices.Clone(honest)
		for range f {
			l = append(l, lies[r.Intn(len(lies))])
		}
		r.Shuffle(len(l), func(i, j int) { l[i], l[j] = l[j], l[i] })
		got, _ := cert.Median(l...)
		wantBetween(t, "f of 2 f + 1 lie", got, honest)
	}
}

// some is a service with stampers of the replicas that do not lie; nil for those that do.
type some struct {
	c        api.Conf
	book     *book.Book
	stampers []*stamp.Stamper
}

// serve makes it, with clocks that are near one another.
func serve(r *rand.Rand, f int, liars []int) *some {
	s := &some{c: confOf(f), book: book.New(), stampers: make([]*stamp.Stamper, 3*f+1)}
	for replica := range s.stampers {
		if !slices.Contains(liars, replica) {
			s.stampers[replica], _ = stamp.New(s.c, replica)
			s.stampers[replica].Tick(500 + uint64(r.Intn(10)))
		}
	}
	return s
}

// honest tells whether that replica does not lie.
func (s *some) honest(replica int) bool {
	return s.stampers[replica] != nil
}

// stamps are one stamp of each replica that does not lie, and some of each that does, in any order.
func (s *some) stamps(r *rand.Rand, x api.Commit) []api.Stamp {
	var l []api.Stamp
	for replica, one := range s.stampers {
		if one != nil {
			got, _ := one.Stamp(s.book, x)
			l = append(l, got)
			continue
		}
		for range 1 + r.Intn(3) {
			l = append(l, stampOf(s.book, replica, x, []uint64{1, 499, 505, 512, end - 1}[r.Intn(5)]))
		}
	}
	r.Shuffle(len(l), func(i, j int) { l[i], l[j] = l[j], l[i] })
	return l
}

// held expects that x is right, and its time between two of those that it has of replicas that do not lie.
func (s *some) held(t *testing.T, x api.Cert) {
	t.Helper()
	var honest []uint64
	for _, y := range x.Stamps {
		if s.honest(y.Replica) {
			honest = append(honest, y.Time)
		}
	}
	wantRight(t, "with lies", s.c, s.book, x, true)
	wantBetween(t, "with lies", cert.Time(x), honest)
}

func TestTimeOfWhatIsMadeWithLies(t *testing.T) {
	r := rand.New(rand.NewSource(5))
	for i := range 600 {
		f := 1 + i%api.MaxF
		s := serve(r, f, r.Perm(3*f + 1)[:r.Intn(f+1)])
		x := request(s.book, 1, 1+i, i)
		l := s.stamps(r, x)
		got, e := cert.Make(s.c, x, l...)
		if e != api.OK {
			t.Fatal(e)
		}
		s.held(t, got)
		// Who makes it lies as well: it leaves out f replicas' stamps as it likes.
		out := r.Perm(3*f + 1)[:f]
		l = slices.DeleteFunc(l, func(y api.Stamp) bool { return slices.Contains(out, y.Replica) })
		if got, e = cert.Make(s.c, x, l...); e != api.OK {
			t.Fatal(e)
		}
		s.held(t, got)
	}
}

func TestEachRightCertificateOfFourReplicas(t *testing.T) {
	r := rand.New(rand.NewSource(6))
	for liar := range 4 {
		for range 8 {
			s := serve(r, 1, []int{liar})
			x := request(s.book, 1, 1, 1)
			pool := slices.Concat(s.stamps(r, x), forged(s, x))
			right := 0
			lists(pool, 3, func(l []api.Stamp) {
				y := api.Cert{Commit: x, Stamps: l}
				if cert.Right(s.c, s.book, y) {
					s.held(t, y)
					right++
				}
			})
			// One without the liar, three with each of its times.
			if right < 4 {
				t.Fatalf("liar %d: %d certificates are right", liar, right)
			}
		}
	}
}

// forged are stamps that a liar makes in the name of the others.
func forged(s *some, x api.Commit) []api.Stamp {
	var l []api.Stamp
	liar := slices.Index(s.stampers, nil)
	for replica := range s.stampers {
		if !s.honest(replica) {
			continue
		}
		for _, time := range []uint64{1, end - 1} {
			y := signedAs(s.book, liar, api.Stamp{Replica: replica, Name: x.Name, Hash: x.Hash, Time: time})
			l = append(l, y)
			// With its mark, in the other's name; and with the mark that is next.
			y.Sig.By = replica
			l = append(l, y)
			y.Sig.Mark = s.book.Len() + 1
			l = append(l, y)
		}
	}
	return l
}

func TestRightStampOfWhatALiarForges(t *testing.T) {
	r := rand.New(rand.NewSource(7))
	for liar := range 4 {
		s := serve(r, 1, []int{liar})
		x := request(s.book, 1, 1, 1)
		for _, y := range s.stamps(r, x) {
			wantStamp(t, "in its own name", s.c, s.book, y, true)
		}
		for _, y := range forged(s, x) {
			wantStamp(t, "in another's name", s.c, s.book, y, false)
		}
	}
}
