package lock_test

import (
	"math"
	"slices"
	"testing"

	"gavel/api"
	"gavel/book"
	"gavel/cert"
	"gavel/lock"
	"gavel/stamp"
)

// P11.1: Take

func TestFirstTake(t *testing.T) {
	b := book.New()
	x := certWith(b, request(b, 2, 300, 1), 1, 200, 7, 199)
	table := fresh(t, conf, 3)
	got, e := table.Take(b, 198, x)
	want := api.Ack{Replica: 3, Name: name(2, 300), Hash: x.Commit.Hash, Median: 199, Sig: api.Sig{By: 3, Mark: 5}}
	if got != want || e != api.OK {
		t.Fatalf("%v (%d), want %v", got, e, want)
	}
	signedText := "\x03ack\x03\x02\xac\x02" + string(x.Commit.Hash[:]) + "\xc7\x01"
	if b.Len() != 5 || !b.Right(got.Sig, []byte(signedText)) {
		t.Error("not just its text was signed")
	}
	if !lock.RightAck(conf, b, got) {
		t.Error("the ack is not right")
	}
	wantHeld(t, "behind it", table, x)
}

func TestTakeOfWhatStampersAndMakeMade(t *testing.T) {
	for f := 1; f <= api.MaxF; f++ {
		b, c := book.New(), confOf(f)
		x := request(b, 1, 1, f)
		var l []api.Stamp
		for replica := range 3*f + 1 {
			s, _ := stamp.New(c, replica)
			s.Tick(uint64(100 - replica))
			got, _ := s.Stamp(b, x)
			l = append(l, got)
		}
		y, e := cert.Make(c, x, l...)
		if e != api.OK {
			t.Fatal(e)
		}
		for replica := range 3*f + 1 {
			got := take(t, b, fresh(t, c, replica), replica, 0, y)
			if got.Median != uint64(100-f) || !lock.RightAck(c, b, got) {
				t.Fatalf("replica %d: %v", replica, got)
			}
		}
	}
}

func TestTakeHangsOnTheTablesConfiguration(t *testing.T) {
	b := book.New()
	for f := 1; f <= 4; f++ {
		x := certOf(b, f, request(b, 2, 1, f), 50)
		for _, of := range []int{1, 2, 3, 4, api.MaxF} {
			if of == f {
				take(t, b, fresh(t, confOf(of), 1), 1, 0, x)
			} else {
				refuse(t, "of another size", b, fresh(t, confOf(of), 1), 0, x, api.ErrSig)
			}
		}
	}
	x := certAt(b, 1, 1, 50)
	refuse(t, "a client past the last", b, fresh(t, api.Conf{F: 1, Clients: 1}, 1), 0, x, api.ErrSig)
	take(t, b, fresh(t, api.Conf{F: 1, Clients: 2}, 1), 1, 0, x)
}

// wrong are certificates of x's name that are not right.
func wrong(b *book.Book, x api.Cert) map[string]api.Cert {
	turn := func(do func(*api.Cert)) api.Cert { return turned(x, do) }
	again := func(y api.Commit) api.Cert { return certOf(b, 1, y, medianOf(x)) }
	far := x.Commit
	far.Len = api.MaxPayload + 1
	l := map[string]api.Cert{
		"no stamps":                 {Commit: x.Commit},
		"a stamp too few":           turn(func(y *api.Cert) { y.Stamps = y.Stamps[:2] }),
		"a stamp too many":          certWith(b, x.Commit, 0, 40, 40, 40, 40),
		"out of order":              turn(func(y *api.Cert) { slices.Reverse(y.Stamps) }),
		"a stamp twice":             turn(func(y *api.Cert) { y.Stamps[1] = y.Stamps[0] }),
		"the end of time":           certWith(b, x.Commit, 0, 40, end, 40),
		"time 0":                    certWith(b, x.Commit, 0, 40, 0, 40),
		"a replica below 0":         certWith(b, x.Commit, -1, 40, 40, 40),
		"a replica past the last":   certWith(b, x.Commit, 2, 40, 40, 40),
		"signed by nobody":          turn(func(y *api.Cert) { y.Commit.Sig = api.Sig{} }),
		"signed by another client":  turn(func(y *api.Cert) { y.Commit = signed(b, y.Commit.Sig.By+1, y.Commit) }),
		"another Len":               turn(func(y *api.Cert) { y.Commit.Len++ }),
		"a Len past the last":       again(signed(b, far.Sig.By, far)),
		"another hash":              turn(func(y *api.Cert) { y.Commit.Hash[31]++ }),
		"another hash, signed":      turn(func(y *api.Cert) { y.Commit.Hash[0]++; y.Commit = signed(b, y.Commit.Sig.By, y.Commit) }),
		"nothing but its name":      {Commit: api.Commit{Name: x.Commit.Name}},
		"stamps of another request": turn(func(y *api.Cert) { y.Stamps = certAt(b, 2, 2, 40).Stamps }),
	}
	for i, place := range []string{"the first", "the second", "the third"} {
		l[place+" has no signature"] = turn(func(y *api.Cert) { y.Stamps[i].Sig = api.Sig{} })
		l[place+" has another mark"] = turn(func(y *api.Cert) { y.Stamps[i].Sig.Mark++ })
		l[place+" has another time"] = turn(func(y *api.Cert) { y.Stamps[i].Time++ })
		l[place+" is signed by another one"] = turn(func(y *api.Cert) { y.Stamps[i].Sig = b.Sign(3, []byte("x")) })
	}
	return l
}

// nameless are ones whose name may not be.
func nameless(b *book.Book) map[string]api.Cert {
	return map[string]api.Cert{
		"nothing":                {},
		"a client below 0":       certAt(b, -1, 1, 40),
		"a client past the last": certAt(b, 3, 1, 40),
		"number 0":               certAt(b, 1, 0, 40),
		"a number past the last": certAt(b, 1, api.MaxSeq+1, 40),
	}
}

func TestTakeOfWhatIsNotRight(t *testing.T) {
	all := book.New()
	x := certAt(all, 1, 1, 40)
	for what, y := range wrong(all, x) {
		b, table := all.Clone(), fresh(t, conf, 2)
		refuse(t, what, b, table, 0, y, api.ErrSig)
		refuse(t, what+", again", b, table, 0, y, api.ErrSig)
		// The name may be held yet.
		take(t, b, table, 2, 0, x)
		wantHeld(t, what+", then right", table, x)
	}
	for what, y := range nameless(all) {
		refuse(t, what, all, fresh(t, conf, 2), 0, y, api.ErrSig)
	}
}

func TestWhatIsNotRightIsAskedFirst(t *testing.T) {
	b := book.New()
	x := certAt(b, 1, 1, 40)
	table := filled(t, b, x)
	full := filled(t, b, certsAt(b, same(api.MaxCerts, 40)...)...)
	for what, y := range wrong(b, x) {
		refuse(t, what+", of a name that is held", b, table, 0, y, api.ErrSig)
		refuse(t, what+", of a name that is held, at the floor", b, table, end, y, api.ErrSig)
		refuse(t, what+", at the floor", b, fresh(t, conf, 2), end, y, api.ErrSig)
		refuse(t, what+", of a full table", b, full, 0, y, api.ErrSig)
		refuse(t, what+", of a full table, at the floor", b, full, end, y, api.ErrSig)
	}
	wantHeld(t, "behind them", table, x)
}

func TestTakeHangsOnTheBook(t *testing.T) {
	early := book.New()
	b := early.Clone()
	x := certAt(b, 1, 1, 40)
	table := fresh(t, conf, 2)
	refuse(t, "in a book that has not its stamps", early, table, 0, x, api.ErrSig)
	refuse(t, "in a new book", book.New(), table, 0, x, api.ErrSig)
	got := take(t, b, table, 2, 0, x)
	refuse(t, "again, in a book that has not its stamps", early, table, 0, x, api.ErrSig)
	repeat(t, "again", b, table, 0, x, got)
}

func TestTheFloor(t *testing.T) {
	b := book.New()
	for i, median := range []uint64{1, 2, 3, 100, 1<<32 + 1, 1 << 63, end - 2, end - 1} {
		x := certAt(b, 1, i+1, median)
		for _, floor := range []uint64{0, 1, median - 1, median, median + 1, median << 1, 1 << 32, 1 << 63, end - 1, end} {
			if floor < median {
				table := fresh(t, conf, 2)
				got, e := table.Take(b, floor, x)
				if got.Median != median || e != api.OK || table.Len() != 1 {
					t.Errorf("time %d, floor %d: %v (%d)", median, floor, got, e)
				}
			} else {
				refuse(t, "at the floor or below it", b, fresh(t, conf, 2), floor, x, api.ErrTime)
			}
		}
	}
}

func TestTheFloorIsHeldAgainstTheMedianAlone(t *testing.T) {
	b := book.New()
	for i, times := range [][]uint64{{1, 50, 90}, {1, 90, 50}, {50, 1, 90}, {50, 90, 1}, {90, 1, 50}, {90, 50, 1}, {50, 50, 90}, {1, 50, 50}} {
		x := certWith(b, request(b, 1, i+1, 1), i%2, times...)
		refuse(t, "the median is at the floor", b, fresh(t, conf, 2), 50, x, api.ErrTime)
		refuse(t, "the median is below the floor", b, fresh(t, conf, 2), 51, x, api.ErrTime)
		take(t, b, fresh(t, conf, 2), 2, 49, x)
	}
}

// No floor is kept from call to call.
func TestEachTakeHasItsOwnFloor(t *testing.T) {
	b := book.New()
	l := certsAt(b, 90, 20, 50)
	table := fresh(t, conf, 2)
	take(t, b, table, 2, 89, l[0])
	refuse(t, "at the floor", b, table, 20, l[1], api.ErrTime)
	take(t, b, table, 2, 19, l[1])
	refuse(t, "below the floor", b, table, 60, l[2], api.ErrTime)
	take(t, b, table, 2, 0, l[2])
	wantHeld(t, "behind them", table, l...)
}

func TestTheSameAckOnceMore(t *testing.T) {
	b := book.New()
	l := certsAt(b, 40, 30, 50)
	table := fresh(t, conf, 2)
	first := take(t, b, table, 2, 0, l[0])
	repeat(t, "at once", b, table, 0, l[0], first)
	second := take(t, b, table, 2, 0, l[1])
	repeat(t, "behind another", b, table, 0, l[0], first)
	repeat(t, "the other", b, table, 0, l[1], second)
	for _, floor := range []uint64{39, 40, 41, 1 << 63, end - 1, end} {
		repeat(t, "whatever the floor", b, table, floor, l[0], first)
	}
	if _, e := table.Promise(b, 0, 0, 60); e != api.OK {
		t.Error(e)
	}
	repeat(t, "behind a promise", b, table, 60, l[0], first)
	wantHeld(t, "behind them", table, l[0], l[1])
}

// A certificate with other stamps, of the same hash and time, is the same: the first one stays.
func TestTheSameTimeByOtherStamps(t *testing.T) {
	b := book.New()
	x := certAt(b, 1, 1, 40)
	table := fresh(t, conf, 2)
	got := take(t, b, table, 2, 0, x)
	for i, times := range [][]uint64{{40, 40, 40}, {1, 40, end - 1}, {39, 41, 40}, {41, 40, 39}, {40, 40, 1}} {
		for first := range 2 {
			repeat(t, "other stamps", b, table, uint64(10*i), certWith(b, x.Commit, first, times...), got)
		}
	}
	for _, size := range []int{0, 4, 6, api.MaxPayload} {
		// A client that lies signs another length for the same hash.
		y := x.Commit
		y.Len = size
		repeat(t, "another Len", b, table, 0, certOf(b, 1, signed(b, y.Sig.By, y), 40), got)
	}
	wantHeld(t, "behind them", table, x)
}

// The same ack has the mark that it had, whatever book is handed in.
func TestTheSameAckInAnotherBook(t *testing.T) {
	b := book.New()
	x := certAt(b, 1, 1, 40)
	early := b.Clone()
	b.Sign(7, []byte("another text"))
	table := fresh(t, conf, 2)
	got := take(t, b, table, 2, 0, x)
	repeat(t, "in a clone that was made ahead of it", early, table, 0, x, got)
	wantHeld(t, "behind it", table, x)
}

// Two tables of one replica give the same text one mark, as the book has it.
func TestTheSameTextHasOneMark(t *testing.T) {
	b := book.New()
	x := certAt(b, 1, 1, 40)
	got := take(t, b, fresh(t, conf, 2), 2, 0, x)
	b.Sign(2, []byte("another text"))
	again, e := fresh(t, conf, 2).Take(b, 0, x)
	if again != got || e != api.OK || b.Len() != 6 {
		t.Errorf("%v (%d), Len %d, want %v", again, e, b.Len(), got)
	}
	other := take(t, b, fresh(t, conf, 1), 1, 0, x)
	if other.Sig.By != 1 || other.Sig.Mark == got.Sig.Mark {
		t.Errorf("of another replica: %v", other)
	}
}

func TestAnotherTime(t *testing.T) {
	b := book.New()
	x := certAt(b, 1, 1, 40)
	table := fresh(t, conf, 2)
	got := take(t, b, table, 2, 0, x)
	for _, median := range []uint64{1, 39, 41, 40 + 1<<32, 1 << 63, end - 1} {
		y := certOf(b, 1, x.Commit, median)
		for _, floor := range []uint64{0, 38, 39, 40, 41, end} {
			refuse(t, "another time", b, table, floor, y, api.ErrThere)
		}
		// Of a name that is not held that time may be.
		take(t, b, fresh(t, conf, 1), 1, 0, y)
	}
	// The greatest and the least time that it has are its time no more.
	refuse(t, "the time of another stamp", b, table, 0, certWith(b, x.Commit, 0, 41, 41, 39), api.ErrThere)
	refuse(t, "the time of another stamp", b, table, 0, certWith(b, x.Commit, 0, 41, 39, 39), api.ErrThere)
	wantHeld(t, "behind them", table, x)
	repeat(t, "behind them", b, table, 0, x, got)
}

func TestAnotherHash(t *testing.T) {
	b := book.New()
	x := certAt(b, 1, 1, 40)
	table := fresh(t, conf, 2)
	got := take(t, b, table, 2, 0, x)
	for i := range x.Commit.Hash {
		for _, by := range []byte{1, 0x80} {
			y := x.Commit
			y.Hash[i] ^= by
			y = signed(b, y.Sig.By, y)
			for _, median := range []uint64{39, 40, 41} {
				refuse(t, "another hash", b, table, 0, certOf(b, 1, y, median), api.ErrThere)
				refuse(t, "another hash, at the floor", b, table, 50, certOf(b, 1, y, median), api.ErrThere)
			}
		}
	}
	none := signed(b, x.Commit.Sig.By, api.Commit{Name: x.Commit.Name, Len: 5})
	refuse(t, "the hash of noughts", b, table, 0, certOf(b, 1, none, 40), api.ErrThere)
	wantHeld(t, "behind them", table, x)
	repeat(t, "behind them", b, table, 0, x, got)
}

func TestTheHashOfNoughts(t *testing.T) {
	b := book.New()
	x := certOf(b, 1, signed(b, api.ClientBase, api.Commit{Name: name(0, 1)}), 1)
	table := fresh(t, conf, 0)
	got := take(t, b, table, 0, 0, x)
	repeat(t, "again", b, table, 0, x, got)
	refuse(t, "another hash", b, table, 0, certAt(b, 0, 1, 1), api.ErrThere)
	wantHeld(t, "behind them", table, x)
}

func TestAsManyAsMayBeHeld(t *testing.T) {
	b := book.New()
	l := certsAt(b, same(api.MaxCerts+2, 40)...)
	table := fresh(t, conf, 2)
	var acks []api.Ack
	for i, x := range l[:api.MaxCerts] {
		acks = append(acks, take(t, b, table, 2, 0, x))
		if table.Len() != i+1 {
			t.Fatalf("Len %d behind %d", table.Len(), i+1)
		}
	}
	for _, x := range l[api.MaxCerts:] {
		refuse(t, "one more", b, table, 0, x, api.ErrLimit)
		refuse(t, "one more, just above the floor", b, table, 39, x, api.ErrLimit)
		// The time is asked ahead of the limit.
		refuse(t, "one more, at the floor", b, table, 40, x, api.ErrTime)
	}
	// What is held is asked ahead of both.
	for i, x := range l[:api.MaxCerts] {
		repeat(t, "held", b, table, 0, x, acks[i])
		repeat(t, "held, at the floor", b, table, 40, x, acks[i])
		refuse(t, "held, another time", b, table, 0, certOf(b, 1, x.Commit, 41), api.ErrThere)
		refuse(t, "held, another hash", b, table, 50, certOf(b, 1, request(b, x.Commit.Name.Client, x.Commit.Name.Seq, 2), 40), api.ErrThere)
	}
	wantHeld(t, "behind them", table, l[:api.MaxCerts]...)
	if n := table.Forget(l[5].Commit.Name); n != 1 {
		t.Fatal(n)
	}
	take(t, b, table, 2, 0, l[api.MaxCerts])
	refuse(t, "one more again", b, table, 0, l[api.MaxCerts+1], api.ErrLimit)
	refuse(t, "the one that was forgotten", b, table, 0, l[5], api.ErrLimit)
}

func TestEachNameHasItsOwn(t *testing.T) {
	b := book.New()
	table := fresh(t, conf, 2)
	var l []api.Cert
	var acks []api.Ack
	for client := range 3 {
		for i, seq := range []int{1, 2, 3, api.MaxSeq - 1, api.MaxSeq} {
			// All with one hash: nobody can tell whose it is.
			x := certAt(b, client, seq, uint64(40+client-i))
			l = append(l, x)
			acks = append(acks, take(t, b, table, 2, 0, x))
			wantHeld(t, "so far", table, l...)
		}
	}
	for i, x := range l {
		repeat(t, "again", b, table, 0, x, acks[i])
		refuse(t, "another time", b, table, 0, certOf(b, 1, x.Commit, 99), api.ErrThere)
	}
}

func TestTakeKeepsNothingOfWhatIsHandedIn(t *testing.T) {
	b := book.New()
	x := certAt(b, 1, 1, 40)
	before := turned(x, func(*api.Cert) {})
	// Behind its length there is one more stamp, that is not of it.
	x.Stamps = append(x.Stamps, api.Stamp{Replica: 3, Time: 7})
	behind := x.Stamps[3]
	x.Stamps = x.Stamps[:3]
	table := fresh(t, conf, 2)
	got := take(t, b, table, 2, 0, x)
	if x.Stamps[:4][3] != behind {
		t.Error("what lies behind the stamps is changed")
	}
	wipe([]api.Cert{x})
	wantHeld(t, "what was handed in is wiped", table, before)
	repeat(t, "what was handed in is wiped", b, table, 0, before, got)
	p, _ := table.Promise(b, 0, 0, 50)
	if !sameCerts(p.Certs, []api.Cert{before}) {
		t.Errorf("it promises %s", brief(p))
	}
}

func TestTakeAtAllFloorsAndOddNumbers(t *testing.T) {
	b := book.New()
	table := filled(t, b, certAt(b, 1, 1, 40))
	for _, n := range []int{math.MinInt, -1, 0, 1, math.MaxInt} {
		x := api.Cert{Commit: api.Commit{Name: name(n, n), Len: n, Sig: api.Sig{By: n, Mark: n}}}
		for range 3 {
			x.Stamps = append(x.Stamps, api.Stamp{Replica: n, Name: name(n, n), Time: uint64(n), Sig: api.Sig{By: n, Mark: n}})
		}
		for _, floor := range []uint64{0, 1, 1 << 63, end} {
			refuse(t, "odd numbers", b, table, floor, x, api.ErrSig)
		}
	}
}
