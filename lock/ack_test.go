package lock_test

import (
	"math"
	"testing"

	"gavel/api"
	"gavel/book"
	"gavel/lock"
)

// P11.3: RightAck

// wantAck expects that a is right, or is not, and that nothing is signed.
func wantAck(t *testing.T, what string, c api.Conf, b *book.Book, a api.Ack, want bool) {
	t.Helper()
	marks := b.Len()
	if got := lock.RightAck(c, b, a); got != want {
		t.Errorf("%s: RightAck of %v is %v", what, a, got)
	}
	if b.Len() != marks {
		t.Errorf("%s: RightAck has signed something", what)
	}
}

// ack is one that replica 2 signed.
func ack(b *book.Book) api.Ack {
	return ackBy(b, 2, api.Ack{Replica: 2, Name: name(1, 300), Hash: hashOf(1), Median: 40})
}

func TestRightAckOfTables(t *testing.T) {
	for f := 1; f <= api.MaxF; f++ {
		b, c := book.New(), confOf(f)
		x := certOf(b, f, request(b, 1, 1, f), 40)
		for replica := range 3*f + 1 {
			a := take(t, b, fresh(t, c, replica), replica, 0, x)
			wantAck(t, "of a table", c, b, a, true)
			a.Sig.Mark--
			wantAck(t, "another mark", c, b, a, false)
		}
	}
}

func TestRightAckOfReplicas(t *testing.T) {
	b := book.New()
	replicas := []int{math.MinInt, -1 << 40, -64, -2, -1, 1 << 32, 1<<32 + 1, api.ClientBase, math.MaxInt}
	for i := range 70 {
		replicas = append(replicas, i)
	}
	for _, replica := range replicas {
		a := ackBy(b, replica, api.Ack{Replica: replica, Name: name(1, 1), Median: 40})
		for f := 1; f <= api.MaxF; f++ {
			wantAck(t, "a replica", confOf(f), b, a, replica >= 0 && replica < 3*f+1)
		}
	}
}

func TestRightAckIsSignedByItsReplica(t *testing.T) {
	for by := -2; by < 7; by++ {
		for replica := range 4 {
			b := book.New()
			b.Sign(50, nil)
			a := ackBy(b, by, api.Ack{Replica: replica, Name: name(1, 1), Median: 40})
			wantAck(t, "signed by one", conf, b, a, by == replica)
			// The mark of one, in the name of another.
			a.Sig.By = replica
			wantAck(t, "in another name", conf, b, a, by == replica)
			a = ackBy(b, replica, a)
			a.Sig.By = by
			wantAck(t, "signed, but in another name", conf, b, a, by == replica)
		}
	}
	b := book.New()
	a := ack(b)
	a.Sig = b.Sign(api.ClientBase+2, ackText(a))
	wantAck(t, "signed by a client", conf, b, a, false)
}

func TestRightAckOfMarks(t *testing.T) {
	b := book.New()
	b.Sign(2, []byte("another text"))
	a := ack(b)
	for _, mark := range []int{math.MinInt, -2, -1, 0, 1, 2, 3, 1<<32 + 2, math.MaxInt} {
		x := a
		x.Sig.Mark = mark
		wantAck(t, "a mark", conf, b, x, mark == 2)
	}
	x := a
	x.Sig = api.Sig{}
	wantAck(t, "without a signature", conf, b, x, false)
	wantAck(t, "nothing", conf, b, api.Ack{}, false)
	unsigned := api.Ack{Replica: 1, Name: name(1, 1), Sig: api.Sig{By: 1}}
	wantAck(t, "signed by nobody, with the mark 0", conf, b, unsigned, false)
}

func TestRightAckOfAnotherText(t *testing.T) {
	b := book.New()
	a := ack(b)
	for what, turn := range map[string]func(*api.Ack){
		"another client":      func(x *api.Ack) { x.Name.Client++ },
		"another number":      func(x *api.Ack) { x.Name.Seq++ },
		"the number cut":      func(x *api.Ack) { x.Name.Seq = 300 % 256 },
		"another name":        func(x *api.Ack) { x.Name = name(300, 1) },
		"a hash's first byte": func(x *api.Ack) { x.Hash[0]++ },
		"a hash's last byte":  func(x *api.Ack) { x.Hash[31]++ },
		"the hash of noughts": func(x *api.Ack) { x.Hash = api.Hash{} },
		"a time before":       func(x *api.Ack) { x.Median-- },
		"a time behind":       func(x *api.Ack) { x.Median++ },
		"a time far off":      func(x *api.Ack) { x.Median += 1 << 32 },
		"another replica":     func(x *api.Ack) { x.Replica, x.Sig.By = 1, 1 },
		"by another replica":  func(x *api.Ack) { x.Replica = 1 },
	} {
		x := a
		turn(&x)
		wantAck(t, what, conf, b, x, false)
		wantAck(t, what+", signed", conf, b, ackBy(b, x.Replica, x), true)
	}
	wantAck(t, "as it was", conf, b, a, true)
	for _, word := range []string{"", "\x03Ack", "\x05stamp", "\x07promise"} {
		x := a
		x.Median = 77
		x.Sig = b.Sign(2, append([]byte(word), ackText(x)[4:]...))
		wantAck(t, "behind another word", conf, b, x, false)
	}
	// A stamp of the same fields is no ack.
	x := a
	x.Median = 78
	s := stampBy(b, 2, api.Stamp{Replica: 2, Name: x.Name, Hash: x.Hash, Time: 78})
	x.Sig = s.Sig
	wantAck(t, "signed as a stamp", conf, b, x, false)
}

func TestRightAckHangsOnItsBook(t *testing.T) {
	b := book.New()
	before := b.Clone()
	a := ack(b)
	wantAck(t, "the book", conf, b, a, true)
	wantAck(t, "its clone", conf, b.Clone(), a, true)
	wantAck(t, "a clone from before", conf, before, a, false)
	wantAck(t, "a new book", conf, book.New(), a, false)
	// Once it is signed there, with that mark, it is right there.
	ack(before)
	wantAck(t, "the clone, signed", conf, before, a, true)
}

// It asks for the replica and its signature alone.
func TestRightAckAsksForNoCertificate(t *testing.T) {
	b := book.New()
	for _, n := range []api.Name{{}, name(3, 1), name(1, 0), name(1, api.MaxSeq+1), name(math.MaxInt, math.MaxInt)} {
		for _, time := range []uint64{0, 1, 1 << 63, end - 1, end} {
			a := ackBy(b, 1, api.Ack{Replica: 1, Name: n, Median: time})
			wantAck(t, "a name or a time that may not be", conf, b, a, true)
			wantAck(t, "without clients", api.Conf{F: 1}, b, a, true)
		}
	}
}
