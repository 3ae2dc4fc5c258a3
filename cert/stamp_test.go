package cert_test

import (
	"math"
	"testing"

	"gavel/api"
	"gavel/book"
	"gavel/cert"
	"gavel/stamp"
)

// P10.1: RightStamp

func TestRightStampOfAStamper(t *testing.T) {
	b := book.New()
	for f := 1; f <= api.MaxF; f++ {
		x := request(b, 2, f, f)
		for replica := range 3*f + 1 {
			s, _ := stamp.New(confOf(f), replica)
			s.Tick(uint64(replica))
			got, e := s.Stamp(b, x)
			if e != api.OK || !cert.RightStamp(confOf(f), b, got) {
				t.Fatalf("F %d, replica %d: %v (%d) is not right", f, replica, got, e)
			}
		}
	}
}

func TestRightStampOfReplicas(t *testing.T) {
	b := book.New()
	x := request(b, 1, 1, 1)
	replicas := []int{math.MinInt, -1 << 40, -65, -64, -2, -1, 1 << 32, 1<<32 + 1, 1000, math.MaxInt - 1, math.MaxInt}
	for _, replica := range append(replicas, upTo(70)...) {
		s := stampOf(b, replica, x, 9)
		for f := 1; f <= api.MaxF; f++ {
			wantStamp(t, "a replica", confOf(f), b, s, replica >= 0 && replica < 3*f+1)
		}
	}
}

func TestRightStampOfTimes(t *testing.T) {
	b := book.New()
	x := request(b, 1, 1, 1)
	for _, time := range times() {
		for _, replica := range []int{0, 1, 3} {
			wantStamp(t, "a time", confOf(1), b, stampOf(b, replica, x, time), time != 0 && time != end)
		}
	}
}

func TestRightStampIsSignedByItsReplica(t *testing.T) {
	c := confOf(2)
	for by := -2; by < 9; by++ {
		for replica := range 7 {
			b := book.New()
			b.Sign(50, nil)
			s := signedAs(b, by, api.Stamp{Replica: replica, Time: 5})
			wantStamp(t, "signed by one", c, b, s, by == replica)
			// The mark of one, in the name of another.
			s.Sig.By = replica
			wantStamp(t, "in another name", c, b, s, by == replica)
		}
	}
	b := book.New()
	s := stampOf(b, 3, request(b, 1, 1, 1), 5)
	s.Sig = b.Sign(api.ClientBase+3, text(s))
	wantStamp(t, "signed by a client", c, b, s, false)
}

func TestRightStampOfMarks(t *testing.T) {
	c, b := confOf(1), book.New()
	x := request(b, 1, 1, 1)
	s, other := stampOf(b, 2, x, 5), stampOf(b, 2, x, 6)
	for _, mark := range []int{math.MinInt, -2, -1, 0, 1, 2, 3, 4, 1<<32 + 2, math.MaxInt} {
		y := s
		y.Sig.Mark = mark
		wantStamp(t, "a mark", c, b, y, mark == s.Sig.Mark)
	}
	if s.Sig.Mark != 2 || other.Sig.Mark != 3 {
		t.Fatalf("marks %d, %d", s.Sig.Mark, other.Sig.Mark)
	}
	wantStamp(t, "without a signature", c, b, api.Stamp{Replica: 0, Name: x.Name, Hash: x.Hash, Time: 5}, false)
	wantStamp(t, "nothing", c, b, api.Stamp{}, false)
	unsigned := api.Stamp{Replica: 1, Name: x.Name, Hash: x.Hash, Time: 5, Sig: api.Sig{By: 1}}
	wantStamp(t, "signed by nobody, with the mark 0", c, b, unsigned, false)
}

func TestRightStampOfAnotherText(t *testing.T) {
	b := book.New()
	s := stampOf(b, 2, request(b, 1, 300, 1), 5)
	for what, turn := range map[string]func(*api.Stamp){
		"another client":      func(y *api.Stamp) { y.Name.Client++ },
		"another Seq":         func(y *api.Stamp) { y.Name.Seq++ },
		"the Seq cut":         func(y *api.Stamp) { y.Name.Seq = 300 % 256 },
		"a hash's first byte": func(y *api.Stamp) { y.Hash[0]++ },
		"a hash's last byte":  func(y *api.Stamp) { y.Hash[31]++ },
		"a time before":       func(y *api.Stamp) { y.Time-- },
		"a time behind":       func(y *api.Stamp) { y.Time++ },
		"a time far off":      func(y *api.Stamp) { y.Time += 1 << 32 },
		"another replica":     func(y *api.Stamp) { y.Replica, y.Sig.By = 1, 1 },
		"by another replica":  func(y *api.Stamp) { y.Replica = 1 },
	} {
		y := s
		turn(&y)
		wantStamp(t, what, confOf(1), b, y, false)
	}
	wantStamp(t, "as it was", confOf(1), b, s, true)
	for _, word := range []string{"", "\x05Stamp", "\x03ack", "\x04deny"} {
		y := s
		y.Time = 77
		y.Sig = b.Sign(2, append([]byte(word), text(y)[6:]...))
		wantStamp(t, "behind another word", confOf(1), b, y, false)
	}
}

func TestRightStampHangsOnItsBook(t *testing.T) {
	b, c := book.New(), confOf(1)
	x := request(b, 1, 1, 1)
	before := b.Clone()
	s := stampOf(b, 2, x, 5)
	wantStamp(t, "the book", c, b, s, true)
	wantStamp(t, "its clone", c, b.Clone(), s, true)
	wantStamp(t, "a clone from before", c, before, s, false)
	wantStamp(t, "a new book", c, book.New(), s, false)
	// Once it is signed there, with that mark, it is right there.
	stampOf(before, 2, x, 5)
	wantStamp(t, "the clone, signed", c, before, s, true)
}

func TestRightStampAsksForNoCommitment(t *testing.T) {
	b := book.New()
	for _, n := range []api.Name{{}, {Client: 3, Seq: 1}, {Client: 1, Seq: 0}, {Client: math.MaxInt, Seq: math.MaxInt}, {Client: 1, Seq: api.MaxSeq + 1}} {
		s := signedAs(b, 1, api.Stamp{Replica: 1, Name: n, Time: 1})
		wantStamp(t, "a name that may not be", confOf(1), b, s, true)
		wantStamp(t, "without clients", api.Conf{F: 1}, b, s, true)
	}
}

func TestRightStampOfConfigurationsThatMayNotBe(t *testing.T) {
	b := book.New()
	for _, replica := range []int{0, 1, 3, 64, 66, 67, 1 << 40, math.MaxInt} {
		s := stampOf(b, replica, request(b, 1, 1, 1), 5)
		for _, f := range []int{math.MinInt, math.MinInt/3 - 1, -1 << 32, -1} {
			wantStamp(t, "F below 0", confOf(f), b, s, false)
		}
		wantStamp(t, "F 0", confOf(0), b, s, replica == 0)
		wantStamp(t, "F 22", confOf(22), b, s, replica < 67)
		// Of so many replicas each number from 0 on is one.
		for _, f := range []int{math.MaxInt / 3, math.MaxInt/3 + 1, math.MaxInt / 2, math.MaxInt/3*2 + 2, math.MaxInt} {
			wantStamp(t, "a great F", confOf(f), b, s, replica < math.MaxInt || f > math.MaxInt/3)
		}
	}
}
