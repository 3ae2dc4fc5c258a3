package cert_test

import (
	"math"
	"slices"
	"testing"

	"gavel/api"
	"gavel/book"
	"gavel/cert"
	"gavel/stamp"
)

// P10.2: Right

// certOf is a certificate of x with stamps of these replicas, signed, as they stand there.
func certOf(b *book.Book, x api.Commit, replicas ...int) api.Cert {
	return api.Cert{Commit: x, Stamps: stampsOf(b, x, replicas...)}
}

// turned is x with another list of stamps, changed.
func turned(x api.Cert, do func(*api.Cert)) api.Cert {
	x.Stamps = slices.Clone(x.Stamps)
	do(&x)
	return x
}

func TestRightOfStampers(t *testing.T) {
	for f := 1; f <= api.MaxF; f++ {
		b, c := book.New(), confOf(f)
		x := request(b, 1, f, f)
		var l []api.Stamp
		for replica := range 3*f + 1 {
			s, _ := stamp.New(c, replica)
			s.Tick(uint64(50 - replica/2))
			got, e := s.Stamp(b, x)
			if e != api.OK {
				t.Fatal(e)
			}
			l = append(l, got)
		}
		for _, first := range []int{0, 1, f} {
			part := l[first : first+2*f+1]
			wantRight(t, "laid by hand", c, b, api.Cert{Commit: x, Stamps: part}, true)
			wantRight(t, "made", c, b, wantMade(t, "of stampers", c, x, part, part), true)
		}
		wantRight(t, "one too many", c, b, api.Cert{Commit: x, Stamps: l[:2*f+2]}, false)
		wantRight(t, "all", c, b, api.Cert{Commit: x, Stamps: l}, false)
		wantRight(t, "one too few", c, b, api.Cert{Commit: x, Stamps: l[:2*f]}, false)
		wantRight(t, "none", c, b, api.Cert{Commit: x}, false)
		for _, other := range []int{f - 1, f + 1} {
			wantRight(t, "of another size", confOf(other), b, api.Cert{Commit: x, Stamps: l[:2*f+1]}, false)
		}
	}
}

func TestRightOfEachSubset(t *testing.T) {
	b := book.New()
	x := request(b, 1, 1, 1)
	for f := 1; f <= 2; f++ {
		for n := range 3*f + 2 {
			for _, replicas := range subsets(n, 3*f+1) {
				wantRight(t, "a subset", confOf(f), b, certOf(b, x, replicas...), n == 2*f+1)
			}
		}
	}
}

func TestRightOfAllSmallLists(t *testing.T) {
	b := book.New()
	x := request(b, 1, 1, 1)
	for n := range 5 {
		lists([]int{-1, 0, 1, 2, 3, 4}, n, func(l []int) {
			want := n == 3 && l[0] >= 0 && l[0] < l[1] && l[1] < l[2] && l[2] <= 3
			wantRight(t, "a small list", confOf(1), b, certOf(b, x, l...), want)
		})
	}
}

func TestRightOfReplicasThatDoNotRise(t *testing.T) {
	b := book.New()
	x := request(b, 1, 1, 1)
	for _, order := range orders(upTo(5)) {
		wantRight(t, "an order", confOf(2), b, certOf(b, x, order...), slices.IsSorted(order))
	}
	for f := 1; f <= api.MaxF; f++ {
		x := certOf(b, request(b, 1, 1, f), upTo(2*f+1)...)
		for i := range 2 * f {
			wantRight(t, "two the other way round", confOf(f), b, turned(x, func(y *api.Cert) {
				y.Stamps[i], y.Stamps[i+1] = y.Stamps[i+1], y.Stamps[i]
			}), false)
			wantRight(t, "one twice", confOf(f), b, turned(x, func(y *api.Cert) { y.Stamps[i+1] = y.Stamps[i] }), false)
			wantRight(t, "two of one replica", confOf(f), b, turned(x, func(y *api.Cert) {
				y.Stamps[i+1] = stampOf(b, i, y.Commit, y.Stamps[i].Time+1)
			}), false)
		}
	}
}

func TestRightAsksForNoOrderOfTimes(t *testing.T) {
	b := book.New()
	x := request(b, 1, 1, 1)
	lists([]uint64{1, 2, 1 << 63, end - 1}, 3, func(l []uint64) {
		y := api.Cert{Commit: x}
		for i, time := range l {
			y.Stamps = append(y.Stamps, stampOf(b, i, x, time))
		}
		wantRight(t, "times in any order", confOf(1), b, y, true)
	})
}

// spoilt are stamps of x that are not right, or are of something else, each of that replica, but where the name says otherwise.
func spoilt(b *book.Book, x api.Commit, replica int) map[string]api.Stamp {
	turn := func(do func(*api.Stamp)) api.Stamp {
		s := stampOf(b, replica, x, 40)
		do(&s)
		return s
	}
	sign := func(do func(*api.Stamp)) api.Stamp {
		s := turn(do)
		return signedAs(b, s.Replica, s)
	}
	return map[string]api.Stamp{
		"nothing":                    {},
		"no signature":               turn(func(s *api.Stamp) { s.Sig = api.Sig{} }),
		"another mark":               turn(func(s *api.Stamp) { s.Sig.Mark++ }),
		"a mark that nobody made":    turn(func(s *api.Stamp) { s.Sig.Mark = b.Len() + 5 }),
		"the mark 0":                 turn(func(s *api.Stamp) { s.Sig.Mark = 0 }),
		"another signer":             turn(func(s *api.Stamp) { s.Sig.By++ }),
		"signed by another one":      signedAs(b, replica+1, turn(func(s *api.Stamp) { s.Time = 41 })),
		"another time":               turn(func(s *api.Stamp) { s.Time++ }),
		"time 0, signed":             sign(func(s *api.Stamp) { s.Time = 0 }),
		"the end of time, signed":    sign(func(s *api.Stamp) { s.Time = end }),
		"another client":             turn(func(s *api.Stamp) { s.Name.Client++ }),
		"another client, signed":     sign(func(s *api.Stamp) { s.Name.Client++ }),
		"another Seq":                turn(func(s *api.Stamp) { s.Name.Seq++ }),
		"another Seq, signed":        sign(func(s *api.Stamp) { s.Name.Seq++ }),
		"another hash":               turn(func(s *api.Stamp) { s.Hash[31]++ }),
		"another hash, signed":       sign(func(s *api.Stamp) { s.Hash[31]++ }),
		"another first byte, signed": sign(func(s *api.Stamp) { s.Hash[0]++ }),
		"the hash 0, signed":         sign(func(s *api.Stamp) { s.Hash = api.Hash{} }),
		"a replica below 0":          sign(func(s *api.Stamp) { s.Replica = -1 }),
		"a replica past the last":    sign(func(s *api.Stamp) { s.Replica = 64 }),
	}
}

func TestRightOfOneSpoiltStamp(t *testing.T) {
	for _, f := range []int{1, 2, 3, api.MaxF} {
		b, c := book.New(), confOf(f)
		x := certOf(b, request(b, 1, 1, 1), upTo(3*f + 1)[f:]...)
		wantRight(t, "as it was", c, b, x, true)
		for _, i := range []int{0, 1, f, 2*f - 1, 2 * f} {
			for what, s := range spoilt(b, x.Commit, x.Stamps[i].Replica) {
				wantRight(t, what, c, b, turned(x, func(y *api.Cert) { y.Stamps[i] = s }), false)
			}
		}
		wantRight(t, "as it was", c, b, x, true)
	}
}

func TestRightOfReplicasAtTheBounds(t *testing.T) {
	for f := 1; f <= api.MaxF; f++ {
		b, c := book.New(), confOf(f)
		x := request(b, 1, 1, 1)
		some := upTo(2*f - 1)
		for i := range some {
			some[i] += 2
		}
		wantRight(t, "the first and the last", c, b, certOf(b, x, slices.Concat([]int{0}, some, []int{3 * f})...), true)
		wantRight(t, "one past the last", c, b, certOf(b, x, slices.Concat([]int{0}, some, []int{3*f + 1})...), false)
		wantRight(t, "one below the first", c, b, certOf(b, x, slices.Concat([]int{-1}, some, []int{3 * f})...), false)
	}
}

func TestRightOfACommitmentThatIsNotRight(t *testing.T) {
	b, c := book.New(), confOf(1)
	good := request(b, 1, 5, 1)
	bad := func(do func(*api.Commit)) api.Commit {
		x := good
		do(&x)
		return x
	}
	signedBad := func(do func(*api.Commit)) api.Commit {
		x := bad(do)
		return signed(b, api.ClientBase+x.Name.Client, x)
	}
	for what, x := range map[string]api.Commit{
		"nothing":                {},
		"no signature":           bad(func(x *api.Commit) { x.Sig = api.Sig{} }),
		"another mark":           bad(func(x *api.Commit) { x.Sig.Mark++ }),
		"another signer":         bad(func(x *api.Commit) { x.Sig.By++ }),
		"another Len":            bad(func(x *api.Commit) { x.Len++ }),
		"another hash":           bad(func(x *api.Commit) { x.Hash = hashOf(2) }),
		"another Seq":            bad(func(x *api.Commit) { x.Name.Seq++ }),
		"another client":         bad(func(x *api.Commit) { x.Name.Client++ }),
		"a client below 0":       signedBad(func(x *api.Commit) { x.Name.Client = -1 }),
		"a client past the last": signedBad(func(x *api.Commit) { x.Name.Client = 3 }),
		"Seq 0":                  signedBad(func(x *api.Commit) { x.Name.Seq = 0 }),
		"Seq past the last":      signedBad(func(x *api.Commit) { x.Name.Seq = api.MaxSeq + 1 }),
		"Len below 0":            signedBad(func(x *api.Commit) { x.Len = -1 }),
		"Len past the last":      signedBad(func(x *api.Commit) { x.Len = api.MaxPayload + 1 }),
		"signed by a replica":    signed(b, 1, bad(func(x *api.Commit) { x.Len = 6 })),
	} {
		// Its stamps are right, and are of it.
		wantRight(t, what, c, b, certOf(b, x, 0, 1, 2), false)
	}
	for _, x := range []api.Commit{
		good, signedBad(func(x *api.Commit) { x.Len = 0 }), signedBad(func(x *api.Commit) { x.Len = api.MaxPayload }),
		signedBad(func(x *api.Commit) { x.Name = api.Name{Client: 0, Seq: 1} }),
		signedBad(func(x *api.Commit) { x.Name = api.Name{Client: 2, Seq: api.MaxSeq} }),
		signedBad(func(x *api.Commit) { x.Hash = api.Hash{} }),
	} {
		wantRight(t, "a right commitment", c, b, certOf(b, x, 0, 1, 2), true)
	}
	wantRight(t, "fewer clients", api.Conf{F: 1, Clients: 1}, b, certOf(b, good, 0, 1, 2), false)
	wantRight(t, "just so many clients", api.Conf{F: 1, Clients: 2}, b, certOf(b, good, 0, 1, 2), true)
	wantRight(t, "nothing", c, b, api.Cert{}, false)
}

func TestRightHangsOnItsBook(t *testing.T) {
	b, c := book.New(), confOf(1)
	x := request(b, 1, 1, 1)
	before := b.Clone()
	y := certOf(b, x, 0, 2, 3)
	wantRight(t, "the book", c, b, y, true)
	wantRight(t, "its clone", c, b.Clone(), y, true)
	wantRight(t, "a clone from before the stamps", c, before, y, false)
	wantRight(t, "a new book", c, book.New(), y, false)
	// Without the commitment alone.
	other := book.New()
	other.Sign(1, nil)
	stampsOf(other, x, 0, 2, 3)
	wantRight(t, "the stamps alone", c, other, y, false)
}

func TestRightOfConfigurationsThatMayNotBe(t *testing.T) {
	b := book.New()
	x := request(b, 1, 1, 1)
	for _, f := range []int{math.MinInt, math.MinInt + 1, math.MinInt / 2, -1 << 32, -1, math.MaxInt / 3, math.MaxInt / 2, math.MaxInt/2 + 1, math.MaxInt} {
		for n := range 4 {
			wantRight(t, "so many there never are", confOf(f), b, certOf(b, x, upTo(n)...), false)
		}
	}
	for n := range 4 {
		wantRight(t, "of one replica", confOf(0), b, certOf(b, x, upTo(n)...), n == 1)
	}
	wantRight(t, "of one replica, past the last", confOf(0), b, certOf(b, x, 1), false)
	wantRight(t, "of 67 replicas", confOf(22), b, certOf(b, x, upTo(67)[22:]...), true)
}

func TestRightIsTrueOfWhatMakeMakesOfRightStamps(t *testing.T) {
	b := book.New()
	x, c := request(b, 1, 1, 1), confOf(1)
	pool := append(stampsOf(b, x, 0, 1, 2, 3), stampOf(b, 0, x, 1), stampOf(b, 2, request(b, 1, 1, 2), 1), stampOf(b, 4, x, 1))
	for n := range 6 {
		lists(pool, n, func(l []api.Stamp) {
			if got, e := cert.Make(c, x, l...); cert.Right(c, b, got) != (e == api.OK) {
				t.Fatalf("of %v: %v (%d)", l, got, e)
			}
		})
	}
}
