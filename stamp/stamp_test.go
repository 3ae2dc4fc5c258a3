package stamp_test

import (
	"encoding/binary"
	"math"
	"testing"

	"gavel/api"
	"gavel/book"
	"gavel/stamp"
)

// P9.2: Stamp, Of, Len

func answers(t *testing.T, what string, got, want api.Errno) {
	t.Helper()
	if got != want {
		t.Errorf("%s: %d, want %d", what, got, want)
	}
}

// text is the bytes that a replica signs of its stamp, without the project's own writer.
func text(x api.Stamp) []byte {
	b := []byte("\x05stamp")
	for _, n := range []int{x.Replica, x.Name.Client, x.Name.Seq} {
		b = binary.AppendUvarint(b, uint64(n))
	}
	return binary.AppendUvarint(append(b, x.Hash[:]...), x.Time)
}

// give has x stamped, a new name, and expects that time and one more signature.
func give(t *testing.T, b *book.Book, s *stamp.Stamper, x api.Commit, time uint64) api.Stamp {
	t.Helper()
	n, marks := s.Len(), b.Len()
	got, e := s.Stamp(b, x)
	want := api.Stamp{Replica: got.Replica, Name: x.Name, Hash: x.Hash, Time: time, Sig: api.Sig{By: got.Replica, Mark: marks + 1}}
	if got != want || e != api.OK {
		t.Fatalf("Stamp of %v: %v (%d), want %v", x.Name, got, e, want)
	}
	if !b.Right(got.Sig, text(got)) || b.Len() != marks+1 || s.Len() != n+1 {
		t.Fatalf("Stamp of %v: not just its text was signed, or it does not count as one", x.Name)
	}
	return got
}

// refuse has x stamped, and expects that error, and that nothing is changed.
func refuse(t *testing.T, what string, b *book.Book, s *stamp.Stamper, x api.Commit, want api.Errno) {
	t.Helper()
	marks, n, now, floor := b.Len(), s.Len(), s.Now(), s.Floor()
	h, time, ok := s.Of(x.Name)
	if got, e := s.Stamp(b, x); got != (api.Stamp{}) || e != want {
		t.Errorf("%s: %v (%d), want %d", what, got, e, want)
	}
	if nowH, nowTime, nowOK := s.Of(x.Name); nowH != h || nowTime != time || nowOK != ok {
		t.Errorf("%s: what it was stamped with is changed", what)
	}
	if b.Len() != marks || s.Len() != n || s.Now() != now || s.Floor() != floor {
		t.Errorf("%s: something is changed", what)
	}
}

// repeat has x stamped, and expects the stamp that there is, and that nothing is changed.
func repeat(t *testing.T, what string, b *book.Book, s *stamp.Stamper, x api.Commit, want api.Stamp) {
	t.Helper()
	marks, n, now, floor := b.Len(), s.Len(), s.Now(), s.Floor()
	if got, e := s.Stamp(b, x); got != want || e != api.OK {
		t.Errorf("%s: %v (%d), want %v", what, got, e, want)
	}
	if b.Len() != marks || s.Len() != n || s.Now() != now || s.Floor() != floor {
		t.Errorf("%s: something is changed", what)
	}
}

// wantStamps expects that just these were stamped.
func wantStamps(t *testing.T, what string, s *stamp.Stamper, l ...api.Stamp) {
	t.Helper()
	if s.Len() != len(l) {
		t.Errorf("%s: Len %d, want %d", what, s.Len(), len(l))
	}
	there := map[api.Name]bool{}
	for _, x := range l {
		there[x.Name] = true
		if h, time, ok := s.Of(x.Name); h != x.Hash || time != x.Time || !ok {
			t.Errorf("%s: Of %v: %x, %d, %v, want %x, %d", what, x.Name, h, time, ok, x.Hash, x.Time)
		}
	}
	for _, n := range names() {
		if h, time, ok := s.Of(n); !there[n] && (h != api.Hash{} || time != 0 || ok) {
			t.Errorf("%s: Of %v, never stamped: %x, %d, %v", what, n, h, time, ok)
		}
	}
}

// names are those that may be, and some that may not.
func names() []api.Name {
	var l []api.Name
	for _, client := range []int{math.MinInt, -1, 0, 1, 2, 3, 99, 100, api.ClientBase, api.ClientBase + 1, math.MaxInt} {
		for _, seq := range []int{math.MinInt, -1, 0, 1, 2, 3, api.MaxSeq, api.MaxSeq + 1, math.MaxInt} {
			l = append(l, api.Name{Client: client, Seq: seq})
		}
	}
	return l
}

func TestFirstStamp(t *testing.T) {
	b := book.New()
	x := api.Commit{Name: api.Name{Client: 2, Seq: 300}, Hash: hashOf(1), Len: 0}
	x = signed(b, 1002, x)
	s := fresh(t, conf, 3)
	got, e := s.Stamp(b, x)
	if want := (api.Stamp{Replica: 3, Name: x.Name, Hash: x.Hash, Time: 1, Sig: api.Sig{By: 3, Mark: 2}}); got != want || e != api.OK {
		t.Fatalf("%v (%d), want %v", got, e, want)
	}
	signedText := "\x05stamp\x03\x02\xac\x02" + string(x.Hash[:]) + "\x01"
	if b.Len() != 2 || !b.Right(got.Sig, []byte(signedText)) {
		t.Error("not just its text was signed")
	}
	wantStamps(t, "behind it", s, got)
	wantTimes(t, "behind it", s, 0, 0)
}

func TestEachReplicaSignsItsOwn(t *testing.T) {
	for f := 1; f <= api.MaxF; f++ {
		b := book.New()
		x := request(b, 0, 1, f)
		for replica := range 3*f + 1 {
			got := give(t, b, fresh(t, api.Conf{F: f, Clients: 1}, replica), x, 1)
			if got.Replica != replica || got.Sig != (api.Sig{By: replica, Mark: replica + 2}) {
				t.Fatalf("replica %d: %v", replica, got)
			}
		}
	}
}

func TestStampAllThatMayBe(t *testing.T) {
	for _, clients := range []int{1, 3, api.MaxClients} {
		b := book.New()
		s := fresh(t, api.Conf{F: 1, Clients: clients}, 1)
		for client := range clients {
			for i, seq := range []int{1, 2, api.MaxSeq} {
				size := []int{0, 100, api.MaxPayload}[(client+i)%3]
				x := api.Commit{Name: api.Name{Client: client, Seq: seq}, Hash: hashOf(client), Len: size}
				give(t, b, s, signed(b, api.ClientBase+client, x), uint64(3*client+i+1))
			}
		}
		if s.Len() != 3*clients {
			t.Errorf("Len %d of %d", s.Len(), 3*clients)
		}
		// The configuration is the one that New was told.
		x := api.Commit{Name: api.Name{Client: clients, Seq: 1}}
		refuse(t, "a client past the last", b, s, signed(b, api.ClientBase+clients, x), api.ErrSig)
	}
}

// wrong are commitments that are not right, of a name that may be and of ones that may not.
func wrong(b *book.Book, x api.Commit) map[string]api.Commit {
	turn := func(do func(*api.Commit)) api.Commit {
		y := x
		do(&y)
		return y
	}
	other := request(b, 2, 9, 50)
	return map[string]api.Commit{
		"nothing":                   {},
		"no signature":              turn(func(y *api.Commit) { y.Sig = api.Sig{} }),
		"another mark":              turn(func(y *api.Commit) { y.Sig.Mark++ }),
		"mark 0":                    turn(func(y *api.Commit) { y.Sig.Mark = 0 }),
		"another signer":            turn(func(y *api.Commit) { y.Sig.By++ }),
		"another one's signature":   turn(func(y *api.Commit) { y.Sig = other.Sig }),
		"another hash":              turn(func(y *api.Commit) { y.Hash[31]++ }),
		"another Seq":               turn(func(y *api.Commit) { y.Name.Seq++ }),
		"another Client":            turn(func(y *api.Commit) { y.Name.Client++ }),
		"another Len":               turn(func(y *api.Commit) { y.Len++ }),
		"signed by another client":  signed(b, 1000, turn(func(y *api.Commit) { y.Hash = hashOf(51) })),
		"signed by the replica":     signed(b, 2, turn(func(y *api.Commit) { y.Hash = hashOf(52) })),
		"signed without ClientBase": signed(b, 1, turn(func(y *api.Commit) { y.Hash = hashOf(53) })),
		"client below 0":            request(b, -1, 1, 1),
		"client past the last":      request(b, 3, 1, 1),
		"Seq 0":                     request(b, 1, 0, 1),
		"Seq below 0":               request(b, 1, -1, 1),
		"Seq past the last":         request(b, 1, api.MaxSeq+1, 1),
		"Len below 0":               signed(b, 1001, turn(func(y *api.Commit) { y.Len = -1 })),
		"Len past the last":         signed(b, 1001, turn(func(y *api.Commit) { y.Len = api.MaxPayload + 1 })),
	}
}

func TestStampOfWhatIsNotRight(t *testing.T) {
	all := book.New()
	x := request(all, 1, 1, 1)
	for what, y := range wrong(all, x) {
		b, s := all.Clone(), fresh(t, conf, 2)
		s.Tick(8)
		refuse(t, what, b, s, y, api.ErrSig)
		refuse(t, what+", again", b, s, y, api.ErrSig)
		wantStamps(t, what, s)
		// No time is lost, and the name may be stamped yet.
		got := give(t, b, s, x, 8)
		wantStamps(t, what+", then right", s, got)
	}
}

func TestWhatIsNotRightIsAskedFirst(t *testing.T) {
	all := book.New()
	x := request(all, 1, 1, 1)
	for what, y := range wrong(all, x) {
		// Ahead of ErrThere and of the stamp that there is.
		b, s := all.Clone(), fresh(t, conf, 2)
		got := give(t, b, s, x, 1)
		refuse(t, what+", of a name that was stamped", b, s, y, api.ErrSig)
		// Ahead of ErrTime.
		s.Tick(end)
		refuse(t, what+", at the end of time", b, s, y, api.ErrSig)
		wantStamps(t, what, s, got)
		repeat(t, what, b, s, x, got)
		none := fresh(t, conf, 2)
		none.Tick(end)
		refuse(t, what+", a first one at the end of time", b, none, y, api.ErrSig)
	}
}

func TestStampHangsOnTheBook(t *testing.T) {
	early := book.New()
	b := early.Clone()
	x := request(b, 1, 1, 1)
	s := fresh(t, conf, 2)
	refuse(t, "in a book that did not sign it", early, s, x, api.ErrSig)
	refuse(t, "in a new book", book.New(), s, x, api.ErrSig)
	got := give(t, b, s, x, 1)
	refuse(t, "again in a book that did not sign it", early, s, x, api.ErrSig)
	repeat(t, "again", b, s, x, got)
}

func TestAnotherHash(t *testing.T) {
	b := book.New()
	x := request(b, 1, 1, 1)
	s := fresh(t, conf, 2)
	s.Tick(4)
	got := give(t, b, s, x, 4)
	for i := range x.Hash {
		for _, by := range []byte{1, 0x80} {
			y := x
			y.Hash[i] ^= by
			y = signed(b, 1001, y)
			refuse(t, "another hash", b, s, y, api.ErrThere)
			// Of a name that was not stamped that hash may be.
			give(t, b, fresh(t, conf, 2), y, 1)
		}
	}
	refuse(t, "no hash", b, s, signed(b, 1001, api.Commit{Name: x.Name, Len: x.Len}), api.ErrThere)
	wantStamps(t, "behind them", s, got)
	repeat(t, "behind them", b, s, x, got)
	wantNext(t, "behind them", s, 5)
	// It is asked ahead of the time.
	s.Tick(end)
	refuse(t, "another hash at the end of time", b, s, request(b, 1, 1, 2), api.ErrThere)
	wantStamps(t, "at the end of time", s, got)
}

func TestTheHashThatIsAllNoughts(t *testing.T) {
	b := book.New()
	x := signed(b, 1000, api.Commit{Name: api.Name{Client: 0, Seq: 1}})
	s := fresh(t, conf, 0)
	got := give(t, b, s, x, 1)
	wantStamps(t, "behind it", s, got)
	repeat(t, "again", b, s, x, got)
	refuse(t, "another hash", b, s, request(b, 0, 1, 1), api.ErrThere)
}

func TestTheSameHashIsTheSameStamp(t *testing.T) {
	b := book.New()
	x := request(b, 1, 1, 1)
	s := fresh(t, conf, 2)
	got := give(t, b, s, x, 1)
	repeat(t, "at once", b, s, x, got)
	s.Tick(20)
	repeat(t, "behind a Tick", b, s, x, got)
	answers(t, "Raise", s.Raise(30), api.OK)
	repeat(t, "behind Raise", b, s, x, got)
	y := request(b, 1, 2, 1)
	second := give(t, b, s, y, 31)
	repeat(t, "behind another", b, s, x, got)
	repeat(t, "the other", b, s, y, second)
	// The last time is the other's: no stamp that is told again is one.
	wantNext(t, "behind them", s, 32)
	answers(t, "Raise", s.Raise(end-1), api.OK)
	repeat(t, "at the last floor", b, s, x, got)
	s.Tick(end)
	repeat(t, "at the end of time", b, s, x, got)
	repeat(t, "the other at the end of time", b, s, y, second)
	wantStamps(t, "at the end of time", s, got, second)
}

// A client that lies signs another length for the same hash: it has been stamped with that hash.
func TestTheSameHashWithAnotherLen(t *testing.T) {
	b := book.New()
	x := request(b, 1, 1, 1)
	s := fresh(t, conf, 2)
	got := give(t, b, s, x, 1)
	for _, size := range []int{0, 4, 6, api.MaxPayload} {
		y := x
		y.Len = size
		repeat(t, "another Len", b, s, signed(b, 1001, y), got)
	}
	wantNext(t, "behind them", s, 2)
}

// The same stamp has the mark that it had, whatever book is handed in.
func TestTheSameStampInAnotherBook(t *testing.T) {
	b := book.New()
	x := request(b, 1, 1, 1)
	early := b.Clone()
	other := book.New()
	other.Sign(7, []byte("another text"))
	y := request(other, 1, 1, 1)
	s := fresh(t, conf, 2)
	request(b, 0, 1, 1)
	got := give(t, b, s, x, 1)
	repeat(t, "in a clone that was made ahead of it", early, s, x, got)
	repeat(t, "in another book", other, s, y, got)
	wantStamps(t, "behind them", s, got)
}

// Two stampers of one replica give the same text one mark, as the book has it.
func TestTheSameTextHasOneMark(t *testing.T) {
	b := book.New()
	x := request(b, 1, 1, 1)
	got := give(t, b, fresh(t, conf, 2), x, 1)
	b.Sign(2, []byte("another text"))
	again, e := fresh(t, conf, 2).Stamp(b, x)
	if again != got || e != api.OK || b.Len() != 3 {
		t.Errorf("%v (%d), Len %d, want %v", again, e, b.Len(), got)
	}
	s := fresh(t, conf, 2)
	s.Tick(2)
	give(t, b, s, x, 2)
}

func TestEachNameHasItsOwn(t *testing.T) {
	b := book.New()
	s := fresh(t, conf, 2)
	var l []api.Stamp
	var requests []api.Commit
	for client := range 3 {
		for _, seq := range []int{1, 2, 3, api.MaxSeq} {
			// All with one hash: nobody can tell whose it is.
			x := request(b, client, seq, 1)
			requests = append(requests, x)
			l = append(l, give(t, b, s, x, uint64(len(l)+1)))
			wantStamps(t, "so far", s, l...)
		}
	}
	for i, x := range requests {
		repeat(t, "again", b, s, x, l[i])
		refuse(t, "another hash", b, s, request(b, x.Name.Client, x.Name.Seq, 2), api.ErrThere)
	}
	wantStamps(t, "at the end", s, l...)
}

// moment is a Tick, a Raise, and the time that the next new name gets then (0: none).
type moment struct{ tick, raise, time uint64 }

func TestTheTimeOfAStamp(t *testing.T) {
	for _, l := range [][]moment{
		// The clock's, or one more than the last.
		{{0, 0, 1}, {0, 0, 2}, {0, 0, 3}},
		{{1, 0, 1}, {0, 0, 2}},
		{{2, 0, 2}, {0, 0, 3}, {1, 0, 4}, {1, 0, 5}, {1, 0, 6}, {1, 0, 7}, {2, 0, 8}, {1, 0, 9}, {1, 0, 10}, {2, 0, 12}},
		{{5, 0, 5}, {100, 0, 105}, {0, 0, 106}},
		// One more than the floor.
		{{0, 1, 2}, {0, 0, 3}},
		{{0, 9, 10}, {0, 9, 11}, {0, 10, 12}, {0, 11, 13}, {0, 13, 14}, {0, 15, 16}, {0, 3, 17}},
		{{9, 9, 10}}, {{9, 8, 9}}, {{9, 10, 11}}, {{10, 8, 10}},
		{{5, 0, 5}, {0, 3, 6}, {0, 5, 7}, {0, 6, 8}, {0, 8, 9}, {0, 10, 11}, {20, 0, 25}, {0, 24, 26}, {0, 30, 31}},
		// A floor that is raised to less stays.
		{{0, 50, 51}, {1, 7, 52}, {0, 51, 53}, {51, 50, 54}, {3, 53, 55}, {1, 55, 56}, {1, 56, 57}},
		// The end of time.
		{{end - 2, 0, end - 2}, {0, 0, end - 1}, {0, 0, 0}, {0, 0, 0}},
		{{end - 1, 0, end - 1}, {0, 0, 0}},
		{{end, 0, 0}, {0, 0, 0}, {end, 0, 0}},
		{{7, 0, 7}, {end, 0, 0}},
		{{0, end - 3, end - 2}, {0, 0, end - 1}, {0, 0, 0}},
		{{0, end - 2, end - 1}, {0, 0, 0}, {1, 0, 0}, {0, end - 1, 0}},
		{{0, end - 1, 0}, {0, end - 1, 0}, {1, 0, 0}, {end, 0, 0}},
		{{0, end, 1}, {3, end, 3}, {0, end, 4}},
		{{7, 0, 7}, {0, end - 1, 0}},
		{{end - 1, end - 2, end - 1}, {0, 0, 0}},
		{{end - 2, end - 2, end - 1}, {0, 0, 0}},
		{{end - 1, end - 1, 0}}, {{end - 2, end - 1, 0}}, {{end, end - 2, 0}}, {{end, end, 0}},
		{{end - 3, 0, end - 3}, {1, 0, end - 2}, {1, 0, end - 1}, {0, 0, 0}, {1, 0, 0}},
		{{end - 3, 0, end - 3}, {2, 0, end - 1}, {0, 0, 0}},
		{{1 << 63, 1<<63 - 1, 1 << 63}, {0, 1 << 63, 1<<63 + 1}, {1<<63 - 2, 0, end - 1}, {0, 0, 0}},
	} {
		playMoments(t, l)
	}
}

// playMoments does all of them on one stamper.
func playMoments(t *testing.T, l []moment) {
	t.Helper()
	b := book.New()
	s := fresh(t, conf, 2)
	var given []api.Stamp
	for i, m := range l {
		s.Tick(m.tick)
		s.Raise(m.raise)
		x := request(b, 1, i+1, i)
		if m.time == 0 {
			refuse(t, "no time is left", b, s, x, api.ErrTime)
		} else {
			given = append(given, give(t, b, s, x, m.time))
		}
		wantStamps(t, "then", s, given...)
	}
}

func TestOfAndLenWhereNothingWasStamped(t *testing.T) {
	b := book.New()
	s := fresh(t, conf, 2)
	x := request(b, 1, 1, 1)
	s.Tick(end)
	refuse(t, "no time is left", b, s, x, api.ErrTime)
	y := x
	y.Sig.Mark = 0
	refuse(t, "not right", b, s, y, api.ErrSig)
	wantStamps(t, "behind them", s)
	// An asked name is no stamped one.
	for _, n := range names() {
		s.Of(n)
	}
	wantStamps(t, "asked", s)
}

func TestManyStamps(t *testing.T) {
	b := book.New()
	s := fresh(t, api.Conf{F: 1, Clients: 10}, 1)
	const many = 5000
	var l []api.Stamp
	for i := range many {
		l = append(l, give(t, b, s, request(b, i%10, i/10+1, i), uint64(i+1)))
	}
	for i, x := range l {
		repeat(t, "again", b, s, request(b, i%10, i/10+1, i), x)
	}
	wantStamps(t, "many", s, l...)
}
