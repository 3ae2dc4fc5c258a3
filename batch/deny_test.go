package batch_test

import (
	"math"
	"slices"
	"testing"

	"gavel/api"
	"gavel/batch"
	"gavel/book"
)

// P12.2

// wantDeny expects that d is right, or is not, and that nothing is signed.
func wantDeny(t *testing.T, what string, c api.Conf, b *book.Book, d api.Deny, want bool) {
	t.Helper()
	marks := b.Len()
	if got := batch.RightDeny(c, b, d); got != want || b.Len() != marks {
		t.Errorf("%s: %+v of F %d: %v, %d signatures, there were %d", what, d, c.F, got, b.Len(), marks)
	}
}

// wantTomb expects that x is right, or is not, and that nothing is signed or changed.
func wantTomb(t *testing.T, what string, c api.Conf, b *book.Book, x api.Tomb, want bool) {
	t.Helper()
	marks, before := b.Len(), told(x)
	if got := batch.RightTomb(c, b, x); got != want {
		t.Errorf("%s: %s of F %d: %v", what, brief(x), c.F, got)
	}
	if b.Len() != marks || told(x) != before {
		t.Errorf("%s: RightTomb has changed something", what)
	}
}

func TestDenyOfReplicas(t *testing.T) {
	b := book.New()
	replicas := append(upTo(70), math.MinInt, -1<<40, -64, -2, -1, 1<<32, 1<<32+1, api.ClientBase, math.MaxInt)
	for _, replica := range replicas {
		d := denyBy(b, replica, api.Deny{Replica: replica, Index: 3})
		for f := 1; f <= api.MaxF; f++ {
			wantDeny(t, "a replica", confOf(f), b, d, replica >= 0 && replica < 3*f+1)
		}
	}
}

func TestDenyOfIndexes(t *testing.T) {
	b := book.New()
	for _, i := range []int{math.MinInt, -1 << 32, -2, -1, 0, 1, 2, 127, 128, 1 << 20, 1 << 32, math.MaxInt} {
		for replica := range 4 {
			wantDeny(t, "an index", conf, b, denyBy(b, replica, api.Deny{Replica: replica, Index: i}), i >= 0)
		}
	}
}

func TestDenySigned(t *testing.T) {
	b := book.New()
	d := denyBy(b, 2, api.Deny{Replica: 2, Index: 3})
	wantDeny(t, "as it was signed", conf, b, d, true)
	wantDeny(t, "as it was signed, for more replicas", confOf(7), b, d, true)
	wantDeny(t, "in a book without it", conf, book.New(), d, false)
	wantDeny(t, "in a clone", conf, b.Clone(), d, true)
	wantDeny(t, "not signed", conf, b, api.Deny{Replica: 1, Index: 3}, false)
	for by := -2; by < 6; by++ {
		x := denyBy(b, by, api.Deny{Replica: 2, Index: 3})
		wantDeny(t, "signed by any", conf, b, x, by == 2)
		x.Sig.By = 2
		wantDeny(t, "another one's mark", conf, b, x, by == 2)
		x = d
		x.Sig.By = by
		wantDeny(t, "in another one's name", conf, b, x, by == 2)
	}
	for _, mark := range []int{math.MinInt, -1, 0, d.Sig.Mark - 1, d.Sig.Mark + 1, b.Len(), b.Len() + 1, math.MaxInt} {
		x := d
		x.Sig.Mark = mark
		wantDeny(t, "with another mark", conf, b, x, false)
	}
}

// A signature is of one replica and one index, and of a denial alone.
func TestDenyOfAnotherText(t *testing.T) {
	b := book.New()
	all := []api.Deny{}
	for replica := range 4 {
		for i := range 4 {
			all = append(all, denyBy(b, replica, api.Deny{Replica: replica, Index: i}))
		}
	}
	for _, d := range all {
		for _, other := range all {
			d.Sig = other.Sig
			wantDeny(t, "with that signature", conf, b, d, d == other)
		}
	}
	for _, text := range []string{"", "\x02\x03", "\x03ack\x02\x03", "\x04deny", "\x04deny\x02", "\x04deny\x02\x04", "\x04deny\x03\x03", "\x04deny\x02\x03\x00", "deny\x02\x03", "\x04Deny\x02\x03"} {
		b := book.New()
		d := api.Deny{Replica: 2, Index: 3, Sig: b.Sign(2, []byte(text))}
		wantDeny(t, "of another text", conf, b, d, false)
	}
}

// A number below 0 is written as 0: the denial of index 0 is none of an index below it.
func TestDenyOfWhatIsWrittenAlike(t *testing.T) {
	b := book.New()
	d := denyBy(b, 0, api.Deny{})
	wantDeny(t, "of replica and index 0", conf, b, d, true)
	for _, n := range []int{-1, math.MinInt} {
		wantDeny(t, "below it", conf, b, api.Deny{Index: n, Sig: d.Sig}, false)
		wantDeny(t, "a replica below it", conf, b, api.Deny{Replica: n, Sig: d.Sig}, false)
		wantDeny(t, "signed by that one", conf, b, denyBy(b, n, api.Deny{Replica: n}), false)
	}
}

// numbers tells the replicas of denies.
func numbers(l []api.Deny) []int {
	var out []int
	for _, d := range l {
		out = append(out, d.Replica)
	}
	return out
}

// Each list of up to four denies of replicas in and out of the range: just three rising ones are right.
func TestTombOfEachList(t *testing.T) {
	b := book.New()
	var pool []api.Deny
	for replica := -1; replica <= 4; replica++ {
		pool = append(pool, denyBy(b, replica, api.Deny{Replica: replica, Index: 3}))
	}
	lists(pool, 4, func(l []api.Deny) {
		n := numbers(l)
		want := len(l) == 3 && rising(n) && n[0] >= 0 && n[2] <= 3
		wantTomb(t, "a list", conf, b, api.Tomb{Index: 3, Denies: l}, want)
	})
}

func TestTombOfQuorums(t *testing.T) {
	b := book.New()
	for f := 1; f <= api.MaxF; f++ {
		n := 3*f + 1
		for size := range n + 3 {
			wantTomb(t, "of the first", confOf(f), b, tombOf(b, 7, upTo(size)...), size == 2*f+1)
			wantTomb(t, "of the last", confOf(f), b, tombOf(b, 7, from(n-size, size)...), size == 2*f+1)
		}
		down := upTo(2*f + 1)
		slices.Reverse(down)
		wantTomb(t, "falling", confOf(f), b, tombOf(b, 7, down...), false)
		wantTomb(t, "one past the last", confOf(f), b, tombOf(b, 7, from(f+1, 2*f+1)...), false)
		wantTomb(t, "one below the first", confOf(f), b, tombOf(b, 7, from(-1, 2*f+1)...), false)
	}
}

func TestTombWithOneOutOfOrder(t *testing.T) {
	b := book.New()
	c := confOf(7)
	good := tombOf(b, 7, from(3, 15)...)
	wantTomb(t, "in order", c, b, good, true)
	for i := range 14 {
		l := slices.Clone(good.Denies)
		l[i], l[i+1] = l[i+1], l[i]
		wantTomb(t, "two the other way round", c, b, api.Tomb{Index: 7, Denies: l}, false)
		l = slices.Clone(good.Denies)
		l[i+1] = l[i]
		wantTomb(t, "one twice", c, b, api.Tomb{Index: 7, Denies: l}, false)
		wantTomb(t, "one twice beside all others", c, b, api.Tomb{Index: 7, Denies: slices.Insert(slices.Clone(good.Denies), i, good.Denies[i])}, false)
		wantTomb(t, "without one", c, b, api.Tomb{Index: 7, Denies: slices.Delete(slices.Clone(good.Denies), i, i+1)}, false)
	}
}

// Each deny of it is of its index, and right.
func TestTombWithOneSpoilt(t *testing.T) {
	b := book.New()
	for _, f := range []int{1, 2, 7} {
		for i := range 2*f + 1 {
			spoil := func(what string, do func(*api.Deny)) {
				x := tombOf(b, 7, upTo(2*f+1)...)
				do(&x.Denies[i])
				wantTomb(t, what, confOf(f), b, x, false)
			}
			spoil("of another index", func(d *api.Deny) { *d = denyBy(b, i, api.Deny{Replica: i, Index: 8}) })
			spoil("of an index below 0", func(d *api.Deny) { *d = denyBy(b, i, api.Deny{Replica: i, Index: -7}) })
			spoil("of another index, with that one's signature", func(d *api.Deny) { d.Index = 8 })
			spoil("not signed", func(d *api.Deny) { d.Sig = api.Sig{} })
			spoil("another mark", func(d *api.Deny) { d.Sig.Mark++ })
			spoil("signed by the next", func(d *api.Deny) { *d = denyBy(b, i+1, *d) })
			spoil("signed by a client", func(d *api.Deny) { *d = denyBy(b, api.ClientBase+i, *d) })
		}
	}
}

func TestTombOfIndexes(t *testing.T) {
	b := book.New()
	for _, i := range []int{math.MinInt, -1, 0, 1, 128, 1 << 32, math.MaxInt} {
		x := tombOf(b, i, 0, 2, 3)
		wantTomb(t, "an index", conf, b, x, i >= 0)
		for _, other := range []int{math.MinInt, -1, i - 1, i + 1, 5} {
			x.Index = other
			wantTomb(t, "of denies of another index", conf, b, x, false)
		}
	}
	wantTomb(t, "nothing", conf, b, api.Tomb{}, false)
	wantTomb(t, "no denies", conf, b, api.Tomb{Index: 3, Denies: []api.Deny{}}, false)
}

// Configurations that may not be go by their numbers: 3 F + 1 replicas, a quorum of 2 F + 1 (of F 0 one replica alone; below it none).
func TestDeniesOfOtherConfigurations(t *testing.T) {
	b := book.New()
	for _, clients := range []int{math.MinInt, 0, 101} {
		wantTomb(t, "other clients", api.Conf{F: 1, Clients: clients}, b, tombOf(b, 3, 0, 1, 2), true)
		c := api.Conf{Clients: clients}
		for replica := -1; replica < 3; replica++ {
			wantDeny(t, "F 0", c, b, denyBy(b, replica, api.Deny{Replica: replica, Index: 3}), replica == 0)
			wantTomb(t, "F 0", c, b, tombOf(b, 3, replica), replica == 0)
		}
		wantTomb(t, "F 0", c, b, tombOf(b, 3), false)
		wantTomb(t, "F 0", c, b, tombOf(b, 3, 0, 1), false)
		wantTomb(t, "F 22", api.Conf{F: 22, Clients: clients}, b, tombOf(b, 3, from(22, 45)...), true)
	}
	for _, f := range []int{math.MinInt, math.MinInt + 1, math.MinInt / 2, -1 << 32, -2, -1} {
		for n := range 5 {
			wantTomb(t, "F below 0", confOf(f), b, tombOf(b, 3, upTo(n)...), false)
			wantDeny(t, "F below 0", confOf(f), b, denyBy(b, n-2, api.Deny{Replica: n - 2, Index: 3}), false)
		}
	}
	for _, f := range []int{math.MaxInt, math.MaxInt - 1, math.MaxInt / 2, math.MaxInt/2 + 1, 1 << 62, 1<<62 + 1, 1 << 63 / 3} {
		wantDeny(t, "a great F", confOf(f), b, denyBy(b, 1<<40, api.Deny{Replica: 1 << 40, Index: 3}), true)
		for n := range 5 {
			wantTomb(t, "a great F", confOf(f), b, tombOf(b, 3, upTo(n)...), false)
		}
	}
}
