package cert_test

import (
	"math/rand"
	"slices"
	"testing"

	"gavel/api"
	"gavel/book"
	"gavel/cert"
)

// P10.1: Median, Time

// times are those about which something begins or ends.
func times() []uint64 {
	return []uint64{0, 1, 2, 3, 127, 128, 1<<32 - 1, 1 << 32, 1<<32 + 1, 1<<63 - 1, 1 << 63, 1<<63 + 1, end - 2, end - 1, end}
}

func TestMedianOfAFew(t *testing.T) {
	for _, c := range []struct {
		l    []uint64
		want uint64
		ok   bool
	}{
		{nil, 0, false},
		{[]uint64{}, 0, false},
		{[]uint64{7}, 7, true},
		{[]uint64{0}, 0, true},
		{[]uint64{end}, end, true},
		{[]uint64{7, 7}, 0, false},
		{[]uint64{1, 9}, 0, false},
		{[]uint64{5, 1, 3}, 3, true},
		{[]uint64{1, 3, 5}, 3, true},
		{[]uint64{3, 5, 1}, 3, true},
		{[]uint64{4, 4, 9}, 4, true},
		{[]uint64{9, 4, 9}, 9, true},
		{[]uint64{6, 6, 6}, 6, true},
		{[]uint64{0, end, 0}, 0, true},
		{[]uint64{end, 0, end}, end, true},
		{[]uint64{end, 1 << 63, 0}, 1 << 63, true},
		// By size as whole numbers from 0 on: 1 << 63 is above 1<<63 - 1.
		{[]uint64{1 << 63, 1<<63 - 1, 1<<63 + 1}, 1 << 63, true},
		{[]uint64{1<<63 - 1, 1 << 63, 1, 2, 1<<63 + 5}, 1<<63 - 1, true},
		{[]uint64{1, 2, 3, 4}, 0, false},
		{[]uint64{8, 1, 6, 3, 5}, 5, true},
		{[]uint64{10, 9, 2, 1, 100}, 9, true},
		{[]uint64{1, 1, 2, 2, 2}, 2, true},
		{[]uint64{7, 1, 6, 2, 5, 3, 4}, 4, true},
		{[]uint64{7, 1, 6, 2, 5, 3}, 0, false},
	} {
		if got, ok := cert.Median(c.l...); got != c.want || ok != c.ok {
			t.Errorf("of %v: %d, %v, want %d, %v", c.l, got, ok, c.want, c.ok)
		}
	}
	if got, ok := cert.Median(); got != 0 || ok {
		t.Errorf("of none: %d, %v", got, ok)
	}
	if got, ok := cert.Median(5, 1, 3); got != 3 || !ok {
		t.Errorf("of 5, 1, 3: %d, %v", got, ok)
	}
}

func TestMedianOfAllSmallLists(t *testing.T) {
	for n := range 7 {
		lists([]uint64{0, 1, 2, 1 << 63, end}, n, func(l []uint64) { wantMedian(t, "a small list", l) })
	}
	lists(times(), 3, func(l []uint64) { wantMedian(t, "three times", l) })
}

func TestMedianInEveryOrder(t *testing.T) {
	for _, l := range [][]uint64{{1, 2, 3, 4, 5, 6, 7}, {0, 0, 5, 5, 5, end, end}, {3, 1 << 40, 1 << 63, end - 1, end}, {1, 2, 3, 4, 5, 6}} {
		for _, o := range orders(l) {
			wantMedian(t, "an order", o)
		}
	}
}

func TestMedianOfManyTimes(t *testing.T) {
	r := rand.New(rand.NewSource(1))
	for n := range 200 {
		for _, span := range []uint64{1, 3, 1000, end} {
			var l []uint64
			for range n {
				l = append(l, r.Uint64()%span)
			}
			wantMedian(t, "at random", l)
			slices.Sort(l)
			wantMedian(t, "rising", l)
			slices.Reverse(l)
			wantMedian(t, "falling", l)
		}
	}
}

func TestMedianOfVeryMany(t *testing.T) {
	const n = 100_001
	for _, c := range []struct {
		what string
		of   func(i int) uint64
	}{
		{"rising", func(i int) uint64 { return uint64(i) }},
		{"falling", func(i int) uint64 { return uint64(n - 1 - i) }},
		{"in leaps", func(i int) uint64 { return uint64(i * 7 % n) }},
		{"up and down", func(i int) uint64 { return uint64(min(2*i, 2*(n-1-i)+1)) }},
		{"all alike", func(int) uint64 { return n / 2 }},
	} {
		var l []uint64
		for i := range n {
			l = append(l, c.of(i))
		}
		if got, ok := cert.Median(l...); got != n/2 || !ok {
			t.Errorf("%s: %d, %v, want %d", c.what, got, ok, n/2)
		}
		if got, ok := cert.Median(l[:n-1]...); got != 0 || ok {
			t.Errorf("%s, an even number: %d, %v", c.what, got, ok)
		}
	}
}

// timed is a certificate with stamps of these times, which nobody signed.
func timed(l ...uint64) api.Cert {
	x := api.Cert{Commit: api.Commit{Name: api.Name{Client: 1, Seq: 2}, Hash: hashOf(3), Len: 4, Sig: api.Sig{By: 5, Mark: 6}}}
	for i, time := range l {
		x.Stamps = append(x.Stamps, api.Stamp{Replica: i, Name: x.Commit.Name, Hash: x.Commit.Hash, Time: time, Sig: api.Sig{By: i, Mark: 90 - i}})
	}
	return x
}

func TestTimeOfAFew(t *testing.T) {
	for _, c := range []struct {
		l    []uint64
		want uint64
	}{
		{nil, 0}, {[]uint64{}, 0}, {[]uint64{7}, 7}, {[]uint64{0}, 0}, {[]uint64{end}, end},
		{[]uint64{7, 7}, 0}, {[]uint64{1, 9}, 0}, {[]uint64{end, end}, 0}, {[]uint64{5, 1, 3}, 3}, {[]uint64{4, 9, 4}, 4},
		{[]uint64{end, 0, end}, end}, {[]uint64{1, 2, 3, 4}, 0}, {[]uint64{8, 1, 6, 3, 5}, 5},
	} {
		if got := cert.Time(timed(c.l...)); got != c.want {
			t.Errorf("of %v: %d, want %d", c.l, got, c.want)
		}
	}
	if got := cert.Time(api.Cert{}); got != 0 {
		t.Errorf("of nothing: %d", got)
	}
}

func TestTimeOfAllSmallLists(t *testing.T) {
	for n := range 6 {
		lists([]uint64{0, 1, 2, 1 << 63, end}, n, func(l []uint64) {
			want, _ := middleOf(l)
			if got := cert.Time(timed(l...)); got != want {
				t.Fatalf("of %v: %d, want %d", l, got, want)
			}
		})
	}
}

func TestTimeHangsOnTheTimesAlone(t *testing.T) {
	for _, n := range []int{1, 2, 3, 4, 43, 100, 101} {
		x := timed()
		var l []uint64
		for i := range n {
			l = append(l, uint64(i*37%n+5))
			// The replicas fall, are doubled, are none; the names and hashes are unlike.
			s := api.Stamp{Replica: n/2 - i/2, Name: api.Name{Client: -i, Seq: i}, Hash: hashOf(i), Time: l[i], Sig: api.Sig{By: -i}}
			x.Stamps = append(x.Stamps, s)
		}
		want, _ := middleOf(l)
		before := slices.Clone(x.Stamps)
		if got := cert.Time(x); got != want || cert.Time(x) != got {
			t.Errorf("of %d stamps: %d, want %d", n, got, want)
		}
		if !slices.Equal(x.Stamps, before) {
			t.Errorf("of %d stamps: the certificate is changed", n)
		}
		x.Commit = api.Commit{}
		if got := cert.Time(x); got != want {
			t.Errorf("of %d stamps, without a commitment: %d, want %d", n, got, want)
		}
	}
}

func TestTimeOfACertificate(t *testing.T) {
	b, r := book.New(), rand.New(rand.NewSource(2))
	for f := 1; f <= api.MaxF; f++ {
		x := request(b, 1, f, f)
		var l []api.Stamp
		for replica := range 3*f + 1 {
			l = append(l, stampOf(b, replica, x, 1+uint64(r.Intn(3*f))))
		}
		got := wantMade(t, "a certificate", confOf(f), x, l, l[:2*f+1])
		want, _ := middleOf(timesOf(l[:2*f+1]))
		if time := cert.Time(got); time != want {
			t.Errorf("F %d: %d, want %d", f, time, want)
		}
	}
}
