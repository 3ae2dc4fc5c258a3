package cert_test

import (
	"math"
	"math/rand"
	"slices"
	"testing"

	"gavel/api"
	"gavel/book"
	"gavel/cert"
)

// P10.2: Make; R3, R4

// chosen tells the stamps of a certificate, replica by replica; nil, if there are too few.
func chosen(f int, x api.Commit, l []api.Stamp) []api.Stamp {
	var out []api.Stamp
	for replica := 0; replica < 3*f+1 && len(out) < 2*f+1; replica++ {
		i := slices.IndexFunc(l, func(s api.Stamp) bool {
			return s.Replica == replica && s.Name == x.Name && s.Hash == x.Hash
		})
		if i >= 0 {
			out = append(out, l[i])
		}
	}
	if len(out) < 2*f+1 {
		return nil
	}
	return out
}

func TestMakeOfJustAQuorum(t *testing.T) {
	b := book.New()
	for f := 1; f <= api.MaxF; f++ {
		c, x := confOf(f), request(b, 1, f, f)
		for _, first := range []int{0, 1, f} {
			l := stampsOf(b, x, upTo(3*f + 1)[first:first+2*f+1]...)
			got := wantMade(t, "just a quorum", c, x, l, l)
			wantRight(t, "just a quorum", c, b, got, true)
			wantMade(t, "the first is missing", c, x, l[1:], nil)
			wantMade(t, "the last is missing", c, x, l[:2*f], nil)
		}
		wantMade(t, "none", c, x, nil, nil)
		wantMade(t, "none", c, x, []api.Stamp{}, nil)
	}
	if got, e := cert.Make(confOf(1), request(b, 1, 1, 1)); !sameCert(got, api.Cert{}) || e != api.ErrQuorum {
		t.Errorf("of no stamps: %v (%d)", got, e)
	}
}

func TestMakeTakesTheLeastReplicas(t *testing.T) {
	b := book.New()
	for f := 1; f <= api.MaxF; f++ {
		c, x := confOf(f), request(b, 1, f, f)
		l := stampsOf(b, x, upTo(3*f+1)...)
		for _, missing := range []int{0, 1, f, 2 * f, 2*f + 1, 3 * f} {
			rest := slices.Concat(l[:missing], l[missing+1:])
			want := rest[:2*f+1]
			got := wantMade(t, "rising", c, x, rest, want)
			wantRight(t, "rising", c, b, got, true)
			slices.Reverse(rest)
			wantMade(t, "falling", c, x, rest, slices.Concat(l[:missing], l[missing+1:])[:2*f+1])
		}
	}
}

func TestMakeOfEachSubsetInEachOrder(t *testing.T) {
	b := book.New()
	x := request(b, 1, 1, 1)
	for n := range 5 {
		for _, replicas := range subsets(n, 4) {
			for _, order := range orders(replicas) {
				var want []api.Stamp
				if n >= 3 {
					want = stampsOf(b, x, replicas[:3]...)
				}
				wantMade(t, "of four", confOf(1), x, stampsOf(b, x, order...), want)
			}
		}
	}
	for n := 4; n <= 6; n++ {
		for _, replicas := range subsets(n, 7) {
			var want []api.Stamp
			if n >= 5 {
				want = stampsOf(b, x, replicas[:5]...)
			}
			for _, turn := range []int{0, 1, n - 1} {
				order := slices.Concat(replicas[turn:], replicas[:turn])
				wantMade(t, "of seven", confOf(2), x, stampsOf(b, x, order...), want)
			}
		}
	}
}

func TestMakeTakesTheFirstOfEach(t *testing.T) {
	b := book.New()
	x, c := request(b, 1, 1, 1), confOf(1)
	at := func(replica int, time uint64) api.Stamp { return stampOf(b, replica, x, time) }
	for what, l := range map[string][2][]api.Stamp{
		"the later ones are less": {
			{at(2, 9), at(0, 8), at(1, 7), at(0, 3), at(1, 2), at(2, 1)},
			{at(0, 8), at(1, 7), at(2, 9)},
		},
		"the later ones are greater": {
			{at(0, 1), at(0, 5), at(1, 2), at(1, 6), at(3, 3), at(3, 7)},
			{at(0, 1), at(1, 2), at(3, 3)},
		},
		"many of one": {
			{at(3, 9), at(3, 8), at(3, 7), at(3, 6), at(2, 5), at(2, 4), at(1, 2), at(3, 1)},
			{at(1, 2), at(2, 5), at(3, 9)},
		},
		"just the same": {
			{at(1, 4), at(1, 4), at(2, 4), at(2, 4), at(3, 4), at(3, 4)},
			{at(1, 4), at(2, 4), at(3, 4)},
		},
		"a quorum of two replicas": {{at(0, 1), at(0, 2), at(1, 1), at(1, 2), at(0, 3), at(1, 3)}, nil},
		"a quorum of one replica":  {{at(2, 1), at(2, 2), at(2, 3), at(2, 4)}, nil},
	} {
		wantMade(t, what, c, x, l[0], l[1])
	}
	// Of many doubles, far from one another, the first: more than a short list's sort takes.
	var l, want []api.Stamp
	for time := uint64(100); time > 0; time-- {
		for replica := range 4 {
			l = append(l, at(replica, time))
		}
	}
	for replica := range 3 {
		want = append(want, at(replica, 100))
	}
	wantMade(t, "doubles", c, x, l, want)
}

func TestMakePassesOverOtherStamps(t *testing.T) {
	b := book.New()
	x, c := request(b, 1, 2, 1), confOf(1)
	good := stampsOf(b, x, 0, 1, 2)
	turn := func(do func(*api.Stamp)) api.Stamp {
		s := api.Stamp{Replica: 0, Name: x.Name, Hash: x.Hash, Time: 3}
		do(&s)
		return signedAs(b, s.Replica, s)
	}
	for what, s := range map[string]api.Stamp{
		"another client":      turn(func(s *api.Stamp) { s.Name.Client = 2 }),
		"another Seq":         turn(func(s *api.Stamp) { s.Name.Seq = 1 }),
		"client and Seq":      turn(func(s *api.Stamp) { s.Name = api.Name{Client: 2, Seq: 1} }),
		"a hash's first byte": turn(func(s *api.Stamp) { s.Hash[0]++ }),
		"a hash's last byte":  turn(func(s *api.Stamp) { s.Hash[31]++ }),
		"the hash 0":          turn(func(s *api.Stamp) { s.Hash = api.Hash{} }),
		"nothing":             {},
	} {
		for i := range 4 {
			l := slices.Insert(slices.Clone(good), i, s)
			wantMade(t, what, c, x, l, good)
			wantMade(t, what+", too few", c, x, slices.Delete(slices.Clone(l), (i+1)%4, (i+1)%4+1), nil)
		}
		// It is not the first one of its replica either.
		wantMade(t, what+", in front", c, x, append([]api.Stamp{s, s}, good...), good)
	}
	for _, replica := range []int{math.MinInt, -1 << 32, -2, -1, 4, 5, 7, 1000, 1 << 32, 1<<32 + 1, math.MaxInt} {
		s := stampOf(b, replica, x, 3)
		for i := range 4 {
			wantMade(t, "no replica", c, x, slices.Insert(slices.Clone(good), i, s), good)
			wantMade(t, "no replica, too few", c, x, slices.Insert(slices.Clone(good[:2]), i/2, s), nil)
		}
	}
}

func TestMakeHoldsEachStampAgainstTheWholeName(t *testing.T) {
	b := book.New()
	x, c := request(b, 1, 2, 1), confOf(1)
	var all, want []api.Stamp
	for replica := range 4 {
		for _, y := range []api.Commit{request(b, 2, 1, 1), request(b, 1, 1, 1), request(b, 2, 2, 1), request(b, 1, 2, 2), x} {
			all = append(all, stampOf(b, replica, y, uint64(10+len(all))))
		}
	}
	for i := range 3 {
		want = append(want, all[5*i+4])
	}
	wantMade(t, "of five requests", c, x, all, want)
	slices.Reverse(all)
	wantMade(t, "of five requests, the other way round", c, x, all, want)
}

func TestMakeAsksForNoSignature(t *testing.T) {
	b := book.New()
	for _, x := range []api.Commit{
		request(b, 1, 2, 1),
		{Name: api.Name{Client: 1, Seq: 2}, Hash: hashOf(1), Len: 5},
		{},
		{Name: api.Name{Client: -1, Seq: -2}, Len: -3, Sig: api.Sig{By: -4, Mark: -5}},
		{Name: api.Name{Client: math.MaxInt, Seq: math.MinInt}, Hash: hashOf(2), Len: math.MaxInt, Sig: api.Sig{By: math.MinInt, Mark: math.MaxInt}},
	} {
		for _, time := range times() {
			// The commitment and the stamps are handed back just as they came in.
			l := []api.Stamp{
				{Replica: 3, Name: x.Name, Hash: x.Hash, Time: time, Sig: api.Sig{By: 9, Mark: -1}},
				{Replica: 1, Name: x.Name, Hash: x.Hash, Time: time},
				{Replica: 2, Name: x.Name, Hash: x.Hash, Time: end - time, Sig: api.Sig{By: 2, Mark: 7}},
			}
			wantMade(t, "nobody signed", confOf(1), x, l, []api.Stamp{l[1], l[2], l[0]})
		}
	}
}

func TestMakeOfAllSmallLists(t *testing.T) {
	b := book.New()
	x := request(b, 1, 1, 1)
	pool := stampsOf(b, x, -1, 0, 1, 2, 3, 4)
	pool = append(pool, stampOf(b, 0, x, 1), stampOf(b, 2, x, 1), stampOf(b, 1, request(b, 1, 1, 2), 1), stampOf(b, 3, request(b, 1, 2, 1), 1))
	for n := range 6 {
		lists(pool, n, func(l []api.Stamp) { wantMade(t, "a small list", confOf(1), x, l, chosen(1, x, l)) })
	}
}

func TestMakeAtRandom(t *testing.T) {
	r := rand.New(rand.NewSource(3))
	made := 0
	for i := range 20_000 {
		f := 1 + r.Intn(3+i%19)
		x := api.Commit{Name: api.Name{Client: 1, Seq: 1}, Hash: hashOf(1), Len: i}
		var l []api.Stamp
		for range r.Intn(8 * f) {
			s := api.Stamp{Replica: r.Intn(3*f+3) - 1, Name: x.Name, Hash: x.Hash, Time: r.Uint64(), Sig: api.Sig{By: r.Int(), Mark: r.Int()}}
			switch r.Intn(12) {
			case 0:
				s.Name.Seq = 2
			case 1:
				s.Hash[r.Intn(32)]++
			}
			l = append(l, s)
		}
		want := chosen(f, x, l)
		wantMade(t, "at random", confOf(f), x, l, want)
		if want != nil {
			made++
		}
	}
	if made < 2000 || made > 18_000 {
		t.Errorf("%d of 20000 were made", made)
	}
}

func TestMakeOfVeryMany(t *testing.T) {
	x := api.Commit{Name: api.Name{Client: 1, Seq: 1}, Hash: hashOf(1)}
	const n = 200_000
	var l []api.Stamp
	for i := range n {
		l = append(l, api.Stamp{Replica: i*7919%70 - 3, Name: x.Name, Hash: x.Hash, Time: uint64(i)})
	}
	wantMade(t, "very many", confOf(21), x, l, chosen(21, x, l))
	for i := range l {
		l[i].Replica = 5
	}
	wantMade(t, "very many of one replica", confOf(1), x, l, nil)
	l = append(l, l[0], l[0])
	l[n].Replica, l[n+1].Replica = 63, 0
	wantMade(t, "very many of one replica, one each of two", confOf(21), x, l, nil)
}

func TestMakeOfConfigurationsThatMayNotBe(t *testing.T) {
	b := book.New()
	x := request(b, 1, 1, 1)
	l := stampsOf(b, x, -1, 2, 0, 1, math.MaxInt)
	for _, f := range []int{
		math.MinInt, math.MinInt + 1, math.MinInt / 2, math.MinInt/3 - 1, -1 << 32, -2, -1,
		math.MaxInt / 3, math.MaxInt/3 + 1, math.MaxInt / 2, math.MaxInt/2 + 1, math.MaxInt/3*2 + 2, math.MaxInt - 1, math.MaxInt,
	} {
		wantMade(t, "so many there never are", confOf(f), x, l, nil)
		wantMade(t, "so many there never are, of none", confOf(f), x, nil, nil)
	}
	wantMade(t, "of one replica", confOf(0), x, l, l[2:3])
	wantMade(t, "of one replica, which is missing", confOf(0), x, l[3:], nil)
	many := stampsOf(b, x, upTo(67)...)
	wantMade(t, "of 67 replicas", api.Conf{F: 22, Clients: -1}, x, many, many[:45])
	ends := slices.Concat(many[:3], many[25:])
	wantMade(t, "of the first and the last of 67 replicas", confOf(22), x, ends, ends)
}

func TestMakeReadsNoMemoryBehindTheList(t *testing.T) {
	b := book.New()
	x := request(b, 1, 1, 1)
	all := stampsOf(b, x, 3, 2, 1, 0)
	before := slices.Clone(all)
	wantMade(t, "the fourth is behind the length", confOf(1), x, all[:3], []api.Stamp{all[2], all[1], all[0]})
	wantMade(t, "the third is behind the length", confOf(1), x, all[:2], nil)
	if !slices.Equal(all, before) {
		t.Error("the memory behind the list is changed")
	}
}

func TestMakeSharesNothing(t *testing.T) {
	b := book.New()
	x, c := request(b, 1, 1, 1), confOf(1)
	for _, replicas := range [][]int{{0, 1, 2}, {2, 1, 0}, {0, 1, 2, 3}, {3, 0, 0, 2, 1}} {
		l := stampsOf(b, x, replicas...)
		want := chosen(1, x, l)
		one, other := wantMade(t, "one", c, x, l, want), wantMade(t, "the other", c, x, l, want)
		clear(l)
		if !slices.Equal(one.Stamps, want) {
			t.Errorf("%v: it is changed with what was handed in", replicas)
		}
		clear(one.Stamps)
		_ = append(one.Stamps, api.Stamp{Replica: 9})
		if !slices.Equal(other.Stamps, want) {
			t.Errorf("%v: it is changed with another one", replicas)
		}
		again := stampsOf(b, x, replicas...)
		third := wantMade(t, "a third", c, x, again, want)
		clear(third.Stamps)
		if !slices.Equal(again, stampsOf(b, x, replicas...)) {
			t.Errorf("%v: what was handed in is changed with it", replicas)
		}
	}
}
