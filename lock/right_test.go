package lock_test

import (
	"math"
	"slices"
	"testing"

	"gavel/api"
	"gavel/book"
	"gavel/lock"
)

// P11.3: Right

// wantRight expects that p is right, or is not, and that nothing is signed or changed.
func wantRight(t *testing.T, what string, c api.Conf, b *book.Book, p api.Promise, want bool) {
	t.Helper()
	marks, before := b.Len(), p
	before.Certs = copied(p.Certs)
	if got := lock.Right(c, b, p); got != want {
		t.Errorf("%s: Right is %v", what, got)
	}
	if b.Len() != marks || !samePromise(p, before) {
		t.Errorf("%s: Right has changed something", what)
	}
}

// promise is one of replica 2 with these certificates, which it signed.
func promise(b *book.Book, floor uint64, l ...api.Cert) api.Promise {
	return promiseBy(b, 2, api.Promise{Replica: 2, Epoch: 5, Floor: floor, Certs: l})
}

// wantCerts expects that a promise of these, signed, is right, or is not.
func wantCerts(t *testing.T, what string, b *book.Book, floor uint64, l []api.Cert, want bool) {
	t.Helper()
	wantRight(t, what, conf, b, promise(b, floor, l...), want)
}

func TestRightOfReplicas(t *testing.T) {
	b := book.New()
	replicas := []int{math.MinInt, -1 << 40, -64, -2, -1, 1 << 32, 1<<32 + 1, api.ClientBase, math.MaxInt}
	for i := range 70 {
		replicas = append(replicas, i)
	}
	for _, replica := range replicas {
		p := promiseBy(b, replica, api.Promise{Replica: replica, Epoch: 5, Floor: 50})
		for f := 1; f <= api.MaxF; f++ {
			wantRight(t, "a replica", confOf(f), b, p, replica >= 0 && replica < 3*f+1)
		}
	}
}

func TestRightOfEpochs(t *testing.T) {
	b := book.New()
	for _, epoch := range []int{math.MinInt, -1 << 32, -2, -1, 0, 1, 128, api.MaxEpoch - 1, api.MaxEpoch, api.MaxEpoch + 1, 1 << 32, math.MaxInt} {
		p := promiseBy(b, 1, api.Promise{Replica: 1, Epoch: epoch, Floor: 50})
		wantRight(t, "an epoch", conf, b, p, epoch >= 0 && epoch <= api.MaxEpoch)
	}
}

func TestRightOfFloors(t *testing.T) {
	b := book.New()
	for _, floor := range []uint64{0, 1, 2, 127, 128, 1 << 32, 1 << 63, end - 1, end} {
		wantCerts(t, "a floor", b, floor, nil, floor != end)
	}
	for _, median := range []uint64{1, 2, 40, 1 << 32, 1 << 63, end - 2, end - 1} {
		x := certAt(b, 1, 1, median)
		for _, floor := range []uint64{0, 1, 2, median - 1, median, median + 1, 1<<32 - 1, 1<<63 - 1, end - 1, end} {
			wantCerts(t, "a certificate at the floor", b, floor, []api.Cert{x}, median <= floor && floor != end)
		}
	}
}

// The time is the median: not the first, the least or the greatest one.
func TestRightGoesByTheMedian(t *testing.T) {
	b := book.New()
	for i, times := range [][]uint64{{10, 40, 90}, {10, 90, 40}, {40, 10, 90}, {40, 90, 10}, {90, 10, 40}, {90, 40, 10}} {
		x := certWith(b, request(b, 1, i+1, 1), i%2, times...)
		wantCerts(t, "just below it", b, 39, []api.Cert{x}, false)
		wantCerts(t, "at it", b, 40, []api.Cert{x}, true)
	}
}

func TestRightOfEachOfSeveralTimes(t *testing.T) {
	b := book.New()
	for late := range 3 {
		medians := same(3, 40)
		medians[late] = 41
		l := certsAt(b, medians...)
		wantCerts(t, "one above the floor", b, 40, l, false)
		wantCerts(t, "one at the floor", b, 41, l, true)
	}
}

func TestRightOfAsManyAsMayBe(t *testing.T) {
	b := book.New()
	l := certsAt(b, same(api.MaxCerts+2, 40)...)
	for n := range l {
		wantCerts(t, "so many", b, 40, l[:n], n <= api.MaxCerts)
		wantCerts(t, "so many of the last", b, 40, l[len(l)-n:], n <= api.MaxCerts)
	}
	wantCerts(t, "two more", b, 40, l, false)
	wantCerts(t, "twice as many", b, 40, slices.Concat(l, l), false)
}

// inOrder tells whether names rise.
func inOrder(l []api.Cert) bool {
	for i := 1; i < len(l); i++ {
		a, b := l[i-1].Commit.Name, l[i].Commit.Name
		if a.Client > b.Client || a.Client == b.Client && a.Seq >= b.Seq {
			return false
		}
	}
	return true
}

func TestRightOfOrders(t *testing.T) {
	b := book.New()
	pool := []api.Cert{certAt(b, 0, 1, 9), certAt(b, 0, 2, 8), certAt(b, 1, 1, 7), certAt(b, 1, 2, 6), certAt(b, 2, 1, 5), certAt(b, 0, api.MaxSeq, 4)}
	var l []api.Cert
	var more func(n int)
	more = func(n int) {
		wantCerts(t, "an order", b, 50, l, inOrder(l))
		for _, x := range pool {
			if n > 0 {
				l = append(l, x)
				more(n - 1)
				l = l[:len(l)-1]
			}
		}
	}
	more(4)
}

func TestRightOfTwoOutOfOrderAmongMany(t *testing.T) {
	b := book.New()
	l := certsAt(b, same(api.MaxCerts, 40)...)
	for i := range len(l) - 1 {
		turned := slices.Clone(l)
		turned[i], turned[i+1] = turned[i+1], turned[i]
		wantCerts(t, "two the other way round", b, 40, turned, false)
		twice := slices.Clone(l)
		twice[i+1] = twice[i]
		wantCerts(t, "one twice", b, 40, twice, false)
	}
	wantCerts(t, "as they were", b, 40, l, true)
}

// Two certificates of one name are refused, whatever they say.
func TestRightOfOneNameTwice(t *testing.T) {
	b := book.New()
	x := certAt(b, 1, 1, 40)
	for what, y := range map[string]api.Cert{
		"the same":      x,
		"another time":  certOf(b, 1, x.Commit, 41),
		"an earlier":    certOf(b, 1, x.Commit, 39),
		"another hash":  certOf(b, 1, request(b, 1, 1, 2), 40),
		"other stamps":  certWith(b, x.Commit, 1, 40, 40, 40),
		"the hash of 0": certOf(b, 1, signed(b, api.ClientBase+1, api.Commit{Name: name(1, 1)}), 40),
	} {
		wantCerts(t, what, b, 50, []api.Cert{x, y}, false)
		wantCerts(t, what+", the other way round", b, 50, []api.Cert{y, x}, false)
		wantCerts(t, what+", alone", b, 50, []api.Cert{y}, true)
	}
}

func TestRightOfOneSpoiltCertificate(t *testing.T) {
	b := book.New()
	// The names on both sides are free, so that it is in order.
	l := []api.Cert{certAt(b, 0, 1, 40), certAt(b, 1, 1, 40), certAt(b, 2, 3, 40)}
	for i := range l {
		for what, x := range wrong(b, l[i]) {
			spoilt := slices.Clone(l)
			spoilt[i] = x
			wantCerts(t, what, b, 50, spoilt, false)
			wantCerts(t, what+", alone", b, 50, spoilt[i:i+1], false)
		}
	}
	for what, x := range nameless(b) {
		wantCerts(t, what, b, 50, []api.Cert{x}, false)
	}
	wantCerts(t, "as they were", b, 50, l, true)
	many := certsAt(b, same(api.MaxCerts, 40)...)
	for i := range many {
		spoilt := slices.Clone(many)
		spoilt[i] = turned(spoilt[i], func(x *api.Cert) { x.Stamps[2].Sig.Mark = 0 })
		wantCerts(t, "one of many", b, 50, spoilt, false)
	}
}

func TestRightHoldsCertificatesAgainstItsConfiguration(t *testing.T) {
	b := book.New()
	for f := 1; f <= 3; f++ {
		p := promise(b, 50, certOf(b, f, request(b, 1, 1, f), 40))
		for of := 1; of <= 4; of++ {
			wantRight(t, "a size", confOf(of), b, p, of == f)
		}
		wantRight(t, "fewer clients", api.Conf{F: f, Clients: 1}, b, p, false)
		wantRight(t, "just so many clients", api.Conf{F: f, Clients: 2}, b, p, true)
	}
}

func TestRightIsSignedByItsReplica(t *testing.T) {
	for by := -2; by < 7; by++ {
		for replica := range 4 {
			b := book.New()
			b.Sign(50, nil)
			p := promiseBy(b, by, api.Promise{Replica: replica, Epoch: 5, Floor: 50})
			wantRight(t, "signed by one", conf, b, p, by == replica)
			// The mark of one, in the name of another.
			p.Sig.By = replica
			wantRight(t, "in another name", conf, b, p, by == replica)
			p = promiseBy(b, replica, p)
			p.Sig.By = by
			wantRight(t, "signed, but in another name", conf, b, p, by == replica)
		}
	}
	b := book.New()
	p := promise(b, 50)
	p.Sig = b.Sign(api.ClientBase+2, promiseText(p))
	wantRight(t, "signed by a client", conf, b, p, false)
}

func TestRightOfMarks(t *testing.T) {
	b := book.New()
	x := certAt(b, 1, 1, 40)
	p, other := promise(b, 50, x), promise(b, 51, x)
	for _, mark := range []int{math.MinInt, -1, 0, 1, 4, 5, 6, 7, 1<<32 + 5, math.MaxInt} {
		q := p
		q.Sig.Mark = mark
		wantRight(t, "a mark", conf, b, q, mark == p.Sig.Mark)
	}
	if p.Sig.Mark != 5 || other.Sig.Mark != 6 {
		t.Fatalf("marks %d, %d", p.Sig.Mark, other.Sig.Mark)
	}
	q := p
	q.Sig = api.Sig{}
	wantRight(t, "without a signature", conf, b, q, false)
	wantRight(t, "nothing", conf, b, api.Promise{}, false)
	unsigned := api.Promise{Replica: 1, Epoch: 7, Floor: 50, Sig: api.Sig{By: 1}}
	wantRight(t, "signed by nobody, with the mark 0", conf, b, unsigned, false)
}

func TestRightOfAnotherText(t *testing.T) {
	b := book.New()
	l := certsAt(b, 10, 20, 30)
	p := promise(b, 50, l...)
	for what, turn := range map[string]func(*api.Promise){
		"another epoch":       func(q *api.Promise) { q.Epoch++ },
		"an epoch ahead":      func(q *api.Promise) { q.Epoch-- },
		"another floor":       func(q *api.Promise) { q.Floor++ },
		"a lower floor":       func(q *api.Promise) { q.Floor-- },
		"another replica":     func(q *api.Promise) { q.Replica, q.Sig.By = 1, 1 },
		"by another replica":  func(q *api.Promise) { q.Replica = 1 },
		"a certificate less":  func(q *api.Promise) { q.Certs = q.Certs[:2] },
		"none":                func(q *api.Promise) { q.Certs = nil },
		"a certificate more":  func(q *api.Promise) { q.Certs = append(slices.Clone(l), certAt(b, 2, 9, 40)) },
		"another certificate": func(q *api.Promise) { q.Certs = []api.Cert{l[0], certAt(b, 1, 9, 20), l[2]} },
		"other stamps":        func(q *api.Promise) { q.Certs = []api.Cert{l[0], certWith(b, l[1].Commit, 1, 20, 20, 20), l[2]} },
		"another hash":        func(q *api.Promise) { q.Certs = []api.Cert{l[0], certOf(b, 1, request(b, 1, 1, 2), 20), l[2]} },
	} {
		q := p
		turn(&q)
		wantRight(t, what, conf, b, q, false)
		wantRight(t, what+", signed", conf, b, promiseBy(b, q.Replica, q), true)
	}
	wantRight(t, "as it was", conf, b, p, true)
	for _, word := range []string{"", "\x07Promise", "\x03ack", "\x05stamp"} {
		q := p
		q.Epoch = 77
		q.Sig = b.Sign(2, append([]byte(word), promiseText(q)[8:]...))
		wantRight(t, "behind another word", conf, b, q, false)
	}
}

func TestRightHangsOnItsBook(t *testing.T) {
	b := book.New()
	x := certAt(b, 1, 1, 40)
	before := b.Clone()
	p := promise(b, 50, x)
	wantRight(t, "the book", conf, b, p, true)
	wantRight(t, "its clone", conf, b.Clone(), p, true)
	wantRight(t, "a clone from before the promise", conf, before, p, false)
	wantRight(t, "a new book", conf, book.New(), p, false)
	// The promise alone, with that mark, without its certificates.
	other := book.New()
	for i := range 4 {
		other.Sign(50, []byte{byte(i)})
	}
	if other.Sign(2, promiseText(p)) != p.Sig {
		t.Fatal("it has another mark there")
	}
	wantRight(t, "without its certificates", conf, other, p, false)
}

func TestRightReadsNoMemoryBehindTheCertificates(t *testing.T) {
	b := book.New()
	l := certsAt(b, 10, 20, 30)
	behind := turned(l[2], func(x *api.Cert) { x.Commit.Len = -1 })
	all := []api.Cert{l[0], l[1], behind}
	p := promise(b, 50, all[:2]...)
	wantRight(t, "one is behind the length", conf, b, p, true)
	if !sameCert(all[2], behind) {
		t.Error("what lies behind the certificates is changed")
	}
}

func TestRightOfConfigurationsThatMayNotBe(t *testing.T) {
	b := book.New()
	for _, replica := range []int{0, 1, 3, 64, 66, 67, 1 << 40, math.MaxInt} {
		p := promiseBy(b, replica, api.Promise{Replica: replica, Epoch: 5, Floor: 50})
		a := ackBy(b, replica, api.Ack{Replica: replica, Median: 50})
		both := func(what string, c api.Conf, want bool) {
			wantRight(t, what, c, b, p, want)
			wantAck(t, what, c, b, a, want)
		}
		for _, f := range []int{math.MinInt, math.MinInt/3 - 1, -1 << 32, -1} {
			both("F below 0", confOf(f), false)
		}
		both("F 0", confOf(0), replica == 0)
		both("F 22", api.Conf{F: 22, Clients: -1}, replica < 67)
		// Of so many replicas each number from 0 on is one.
		for _, f := range []int{math.MaxInt / 3, math.MaxInt/3 + 1, math.MaxInt / 2, math.MaxInt/3*2 + 2, math.MaxInt} {
			both("a great F", confOf(f), replica < math.MaxInt || f > math.MaxInt/3)
		}
	}
	// Of one replica, one stamp is a quorum.
	x := certWith(b, request(b, 1, 1, 1), 0, 40)
	wantRight(t, "F 0", confOf(0), b, promiseBy(b, 0, api.Promise{Floor: 40, Certs: []api.Cert{x}}), true)
	wantRight(t, "F 0, above the floor", confOf(0), b, promiseBy(b, 0, api.Promise{Floor: 39, Certs: []api.Cert{x}}), false)
}
