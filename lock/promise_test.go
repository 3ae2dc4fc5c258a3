package lock_test

import (
	"math"
	"testing"

	"gavel/api"
	"gavel/book"
	"gavel/lock"
)

// P11.2: Promise

// promises expects that the table of replica 2 promises just these, that this is signed and right, and that nothing else is changed.
func promises(t *testing.T, what string, b *book.Book, table *lock.Table, epoch int, last, time uint64, l ...api.Cert) api.Promise {
	t.Helper()
	held, then := table.Held(), b.Clone()
	want := promiseBy(then, 2, api.Promise{Replica: 2, Epoch: epoch, Floor: time, Certs: l})
	got, e := table.Promise(b, epoch, last, time)
	if !samePromise(got, want) || e != api.OK {
		t.Fatalf("%s: %s (%d), want %s", what, brief(got), e, brief(want))
	}
	if !b.Right(got.Sig, promiseText(want)) || b.Len() != then.Len() {
		t.Fatalf("%s: not just the promise was signed", what)
	}
	if !sameCerts(table.Held(), held) {
		t.Fatalf("%s: what is held is changed", what)
	}
	if !lock.Right(conf, b, got) {
		t.Fatalf("%s: it is not right", what)
	}
	return got
}

// refusePromise expects that error, and that nothing is changed.
func refusePromise(t *testing.T, what string, b *book.Book, table *lock.Table, epoch int, last, time uint64, want api.Errno) {
	t.Helper()
	held, marks := table.Held(), b.Len()
	if got, e := table.Promise(b, epoch, last, time); !samePromise(got, api.Promise{}) || e != want {
		t.Errorf("%s: epoch %d, %d to %d: %s (%d), want %d", what, epoch, last, time, brief(got), e, want)
	}
	if b.Len() != marks || !sameCerts(table.Held(), held) {
		t.Errorf("%s: something is changed", what)
	}
}

func TestPromiseByKnownBytes(t *testing.T) {
	b := book.New()
	x := certWith(b, request(b, 1, 300, 1), 0, 200, 7, 199)
	table := filled(t, b, x)
	got, e := table.Promise(b, 130, 198, 1<<63)
	if e != api.OK || got.Replica != 2 || got.Epoch != 130 || got.Floor != 1<<63 || got.Sig != (api.Sig{By: 2, Mark: 6}) || !sameCerts(got.Certs, []api.Cert{x}) {
		t.Fatalf("%s (%d)", brief(got), e)
	}
	h := string(x.Commit.Hash[:])
	text := "\x07promise\x02\x82\x01" + "\x80\x80\x80\x80\x80\x80\x80\x80\x80\x01" + "\x01" +
		"\x01\xac\x02" + h + "\x05\xe9\x07\x01" + "\x03" +
		"\x00\x01\xac\x02" + h + "\xc8\x01\x00\x02" +
		"\x01\x01\xac\x02" + h + "\x07\x01\x03" +
		"\x02\x01\xac\x02" + h + "\xc7\x01\x02\x04"
	if b.Len() != 6 || !b.Right(got.Sig, []byte(text)) {
		t.Error("not just its text was signed")
	}
}

func TestPromiseOfEpochs(t *testing.T) {
	b := book.New()
	x := certAt(b, 1, 1, 40)
	table := filled(t, b, x)
	for _, epoch := range []int{0, 1, 2, 127, 128, 1000, api.MaxEpoch - 1, api.MaxEpoch} {
		promises(t, "an epoch", b, table, epoch, 0, 50, x)
	}
	for _, epoch := range []int{math.MinInt, -1 << 32, -2, -1, api.MaxEpoch + 1, api.MaxEpoch + 2, 1 << 32, 1<<32 + 1, math.MaxInt} {
		refusePromise(t, "no epoch", b, table, epoch, 0, 50, api.ErrArg)
		// It is asked ahead of the time.
		refusePromise(t, "no epoch, no time", b, table, epoch, 50, 50, api.ErrArg)
		refusePromise(t, "no epoch, the end of time", b, table, epoch, 50, end, api.ErrArg)
	}
}

func TestPromiseOfTimes(t *testing.T) {
	b := book.New()
	table := fresh(t, conf, 2)
	all := []uint64{0, 1, 2, 39, 40, 41, 1 << 32, 1<<32 + 1, 1<<63 - 1, 1 << 63, end - 2, end - 1, end}
	for _, last := range all {
		for _, time := range all {
			if time > last && time != end {
				promises(t, "above last", b, table, 3, last, time)
			} else {
				refusePromise(t, "not above last", b, table, 3, last, time, api.ErrTime)
			}
		}
	}
}

// chosen are those of l with a time above last, and at most time.
func chosen(l []api.Cert, last, time uint64) []api.Cert {
	var out []api.Cert
	for _, x := range l {
		if median := medianOf(x); last < median && median <= time {
			out = append(out, x)
		}
	}
	return out
}

func TestPromiseOfEachSpan(t *testing.T) {
	b := book.New()
	// By rising names the times neither rise nor fall; some are there twice.
	l := certsAt(b, 5, 2, 8, 3, 3, 1, 7, 5, 4)
	table := filled(t, b, l...)
	for last := range uint64(10) {
		for time := last + 1; time < 11; time++ {
			promises(t, "a span", b, table, int(last), last, time, chosen(l, last, time)...)
		}
	}
	promises(t, "just below, at, just above", b, table, 0, 3, 5, l[0], l[7], l[8])
	promises(t, "none", b, table, 0, 8, 9)
	promises(t, "all", b, table, 0, 0, end-1, l...)
}

func TestPromiseAtTheEndOfTime(t *testing.T) {
	b := book.New()
	l := certsAt(b, end-1, 1, end-2, 1<<63, 1<<63-1, 1<<32)
	table := filled(t, b, l...)
	for _, last := range []uint64{0, 1, 1 << 32, 1<<63 - 2, 1<<63 - 1, 1 << 63, end - 3, end - 2} {
		for _, time := range []uint64{1, 2, 1<<32 + 1, 1<<63 - 1, 1 << 63, end - 2, end - 1} {
			if time > last {
				promises(t, "great times", b, table, 0, last, time, chosen(l, last, time)...)
			}
		}
	}
	refusePromise(t, "nothing is above it", b, table, 0, end-1, end, api.ErrTime)
	refusePromise(t, "the end of time", b, table, 0, 0, end, api.ErrTime)
}

// The time is the median: not the first, the least or the greatest one.
func TestPromiseGoesByTheMedian(t *testing.T) {
	b := book.New()
	x := certWith(b, request(b, 0, 1, 1), 0, 10, 30, 50)
	y := certWith(b, request(b, 1, 1, 1), 0, 50, 10, 30)
	z := certWith(b, request(b, 2, 1, 1), 1, 30, 50, 10)
	table := filled(t, b, z, x, y)
	promises(t, "just below", b, table, 0, 0, 29)
	promises(t, "at it", b, table, 0, 29, 30, x, y, z)
	promises(t, "just above", b, table, 0, 30, 60)
}

func TestPromiseTellsThemAsHeldDoes(t *testing.T) {
	b := book.New()
	l := spread(b)
	table := filled(t, b, l[3], l[2], l[1])
	promises(t, "put in falling", b, table, 0, 0, 2000, l[1:4]...)
	for i := len(l) - 1; i > 3; i-- {
		take(t, b, table, 2, 0, l[i])
	}
	promises(t, "all", b, table, 0, 0, 2000, l[1:]...)
	promises(t, "half", b, table, 0, 500, 800, chosen(l[1:], 500, 800)...)
}

func TestPromiseOfAFullTable(t *testing.T) {
	b := book.New()
	l := certsAt(b, same(api.MaxCerts, 40)...)
	table := filled(t, b, l...)
	promises(t, "full", b, table, 0, 39, 40, l...)
	promises(t, "full, none of them", b, table, 0, 40, 41)
}

func TestPromiseHoldsWhatItHeld(t *testing.T) {
	b := book.New()
	l := certsAt(b, 10, 20, 30)
	table := filled(t, b, l...)
	first := promises(t, "once", b, table, 4, 10, 30, l[1], l[2])
	again := promises(t, "once more", b, table, 4, 10, 30, l[1], l[2])
	if first.Sig != again.Sig {
		t.Errorf("the same text has the marks %d and %d", first.Sig.Mark, again.Sig.Mark)
	}
	// A promise is no floor: what is told is what is held then.
	promises(t, "an earlier time", b, table, 4, 0, 15, l[0])
	promises(t, "an earlier epoch", b, table, 3, 10, 30, l[1], l[2])
	late := certAt(b, 2, 2, 25)
	take(t, b, table, 2, 0, late)
	promises(t, "one more", b, table, 4, 10, 30, l[1], l[2], late)
	table.Forget(l[1].Commit.Name)
	promises(t, "one less", b, table, 4, 10, 30, l[2], late)
	table.Forget(l[0].Commit.Name, l[2].Commit.Name, late.Commit.Name)
	promises(t, "none", b, table, 4, 10, 30)
}

func TestPromiseOfEachReplica(t *testing.T) {
	for f := 1; f <= api.MaxF; f++ {
		b, c := book.New(), confOf(f)
		x := certOf(b, f, request(b, 1, 1, f), 40)
		for _, replica := range []int{0, 1, f, 3*f - 1, 3 * f} {
			table := fresh(t, c, replica)
			take(t, b, table, replica, 0, x)
			then := b.Clone()
			want := promiseBy(then, replica, api.Promise{Replica: replica, Epoch: f, Floor: 41, Certs: []api.Cert{x}})
			got, e := table.Promise(b, f, 39, 41)
			if !samePromise(got, want) || e != api.OK || b.Len() != then.Len() || !lock.Right(c, b, got) {
				t.Fatalf("F %d, replica %d: %s (%d), want %s", f, replica, brief(got), e, brief(want))
			}
		}
	}
}

// A promise is signed in the book that is handed in, whatever book the certificates are of.
func TestPromiseInAnotherBook(t *testing.T) {
	b, other := book.New(), book.New()
	x := certAt(b, 1, 1, 40)
	table := filled(t, b, x)
	marks := b.Len()
	got, e := table.Promise(other, 0, 0, 50)
	want := api.Promise{Replica: 2, Floor: 50, Certs: []api.Cert{x}, Sig: api.Sig{By: 2, Mark: 1}}
	if !samePromise(got, want) || e != api.OK || other.Len() != 1 || b.Len() != marks {
		t.Errorf("%s (%d), want %s", brief(got), e, brief(want))
	}
	if lock.Right(conf, other, got) || lock.Right(conf, b, got) {
		t.Error("it is right in a book that has not all of it")
	}
}
