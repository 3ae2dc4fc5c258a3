package batch_test

import (
	"bytes"
	"math/rand"
	"slices"
	"testing"

	"gavel/api"
	"gavel/batch"
	"gavel/book"
	"gavel/commit"
	"gavel/lock"
)

// All calls held against the chapter's sentences told another way, over what chance puts together (each time the same).

// plainEntries looks, for each certificate, for one that stands ahead of it, and places each by how many are ahead.
func plainEntries(last uint64, logged map[api.Name]bool, x api.Batch) []api.Entry {
	var all []api.Entry
	for _, p := range x.Promises {
		for _, c := range p.Certs {
			times := []uint64{}
			for _, s := range c.Stamps {
				times = append(times, s.Time)
			}
			slices.Sort(times)
			if len(times)%2 == 0 {
				continue
			}
			e := api.Entry{Name: c.Commit.Name, Hash: c.Commit.Hash, Time: times[len(times)/2]}
			if e.Time > last && e.Time <= x.Time && !logged[e.Name] && !slices.Contains(all, e) {
				all = append(all, e)
			}
		}
	}
	var best []api.Entry
	for _, e := range all {
		if !slices.ContainsFunc(all, func(other api.Entry) bool {
			return other.Name == e.Name && (other.Time < e.Time || other.Time == e.Time && bytes.Compare(other.Hash[:], e.Hash[:]) < 0)
		}) {
			best = append(best, e)
		}
	}
	out := make([]api.Entry, len(best))
	for _, e := range best {
		ahead := 0
		for _, other := range best {
			if behindOf(e, other) {
				ahead++
			}
		}
		out[ahead] = e
	}
	return out
}

// behindOf tells whether a stands behind b in a log.
func behindOf(a, b api.Entry) bool {
	switch {
	case a.Time != b.Time:
		return a.Time > b.Time
	case a.Name.Client != b.Name.Client:
		return a.Name.Client > b.Name.Client
	}
	return a.Name.Seq > b.Name.Seq
}

// plainMake goes through the replicas and the indexes that there are, and looks for the first part of each.
func plainMake(s batch.Base, time uint64, l []api.Promise, openings []api.Opening, tombs []api.Tomb, indexes []int) (api.Batch, api.Errno) {
	x := api.Batch{Epoch: s.Epoch, Time: time}
	for replica := range 3*s.Conf.F + 1 {
		for _, p := range l {
			if p.Replica == replica && p.Epoch == s.Epoch && p.Floor == time {
				x.Promises = append(x.Promises, p)
				break
			}
		}
	}
	if len(x.Promises) <= 2*s.Conf.F {
		return api.Batch{}, api.ErrQuorum
	}
	x.Promises = x.Promises[:2*s.Conf.F+1]
	for _, i := range indexes {
		e, open := s.Open[i]
		o := slices.IndexFunc(openings, func(o api.Opening) bool { return o.Index == i && e.Hash == committed(e.Name, o.Nonce, o.Payload) })
		x1 := slices.IndexFunc(tombs, func(x api.Tomb) bool { return x.Index == i })
		if open && o >= 0 && len(x.Openings) < 64 {
			x.Openings = append(x.Openings, openings[o])
		}
		if open && o < 0 && x1 >= 0 && len(x.Tombs) < 64 {
			x.Tombs = append(x.Tombs, tombs[x1])
		}
	}
	return x, api.OK
}

// plainTomb counts, for each replica, its denies.
func plainTomb(c api.Conf, b *book.Book, x api.Tomb) bool {
	ahead := -1
	for _, d := range x.Denies {
		if d.Replica <= ahead || d.Replica > 3*c.F || d.Index != x.Index || x.Index < 0 || d.Sig.By != d.Replica || !b.Right(d.Sig, denyText(d)) {
			return false
		}
		ahead = d.Replica
	}
	return len(x.Denies) == 2*c.F+1
}

// plainValid asks sentence by sentence.
func plainValid(b *book.Book, s batch.Base, x api.Batch) bool {
	ok := x.Epoch == s.Epoch && x.Time >= s.Last+1 && s.Last+1 != 0 && x.Time != end
	ok = ok && len(x.Promises) == 2*s.Conf.F+1 && len(x.Openings) < 65 && len(x.Tombs) < 65
	ahead := -1
	for _, p := range x.Promises {
		ok = ok && p.Replica > ahead && p.Epoch == s.Epoch && p.Floor == x.Time && lock.Right(s.Conf, b, p)
		ahead = p.Replica
	}
	opened := map[int]bool{}
	for i, o := range x.Openings {
		e, open := s.Open[o.Index]
		ok = ok && open && (i == 0 || x.Openings[i-1].Index < o.Index) && len(o.Payload) < 257 && commit.Matches(e.Hash, e.Name, o)
		opened[o.Index] = true
	}
	for i, t := range x.Tombs {
		_, open := s.Open[t.Index]
		ok = ok && open && (i == 0 || x.Tombs[i-1].Index < t.Index) && !opened[t.Index] && plainTomb(s.Conf, b, t)
	}
	return ok
}

// world is what parts are drawn from.
type world struct {
	*rand.Rand
	b       *book.Book
	s       batch.Base
	indexes []int
	certs   []api.Cert
}

func newWorld(seed int64, f int) *world {
	w := &world{Rand: rand.New(rand.NewSource(seed)), b: book.New()}
	w.indexes = from(w.Intn(3), 4+w.Intn(90))
	w.s = baseOf(f, w.indexes...)
	for i := range w.indexes {
		if w.Intn(8) == 0 {
			delete(w.s.Open, i)
		}
	}
	// By rising names, several of each.
	for i := range 36 {
		x := request(w.b, i/12, i%12/3+1, w.Intn(2))
		w.certs = append(w.certs, certOf(w.b, f, x, uint64(96+w.Intn(110))))
		if w.Intn(4) == 0 {
			w.s.Logged[x.Name] = w.Intn(3) > 0
		}
	}
	return w
}

// promise is one that is seldom wrong: its certificates are of rising names.
func (w *world) promise(replica int) api.Promise {
	p := api.Promise{Replica: replica, Epoch: epoch, Floor: until}
	for _, x := range w.certs {
		if w.Intn(3) == 0 && (len(p.Certs) == 0 || p.Certs[len(p.Certs)-1].Commit.Name != x.Commit.Name) {
			p.Certs = append(p.Certs, x)
		}
	}
	switch w.Intn(60) {
	case 0:
		p.Epoch++
	case 1:
		p.Floor--
	case 2:
		return p // not signed
	}
	return promiseBy(w.b, replica, p)
}

func (w *world) promises() []api.Promise {
	var l []api.Promise
	for _, replica := range w.Perm(3*w.s.Conf.F + 2) {
		for range 1 + w.Intn(8)/7 {
			l = append(l, w.promise(replica))
		}
	}
	return l[:len(l)-w.Intn(w.s.Conf.F+2)]
}

// opening is one that mostly matches; index is one that mostly is open.
func (w *world) opening(index int) api.Opening {
	o := openingAt(index)
	if w.Intn(6) == 0 {
		o.Nonce[w.Intn(32)]++
	}
	return o
}

// tomb is one that mostly is right.
func (w *world) tomb(index int) api.Tomb {
	n := 3*w.s.Conf.F + 1
	replicas := w.Perm(n)[:2*w.s.Conf.F+1]
	slices.Sort(replicas)
	switch w.Intn(40) {
	case 0:
		replicas = replicas[1:]
	case 1:
		replicas[0] = replicas[1]
	case 2:
		replicas[len(replicas)-1] = n
	case 3:
		return api.Tomb{Index: index, Denies: tombOf(w.b, index+1, replicas...).Denies}
	}
	return tombOf(w.b, index, replicas...)
}

// places draws n indexes, which may be twice there and may not be open.
func (w *world) places(n int) []int {
	var l []int
	for range n {
		l = append(l, w.Intn(len(w.indexes)+4))
	}
	return l
}

func (w *world) openings(indexes []int) []api.Opening {
	var l []api.Opening
	for _, i := range indexes {
		l = append(l, w.opening(i))
	}
	return l
}

func (w *world) tombs(indexes []int) []api.Tomb {
	var l []api.Tomb
	for _, i := range indexes {
		l = append(l, w.tomb(i))
	}
	return l
}

func TestEntriesOfChance(t *testing.T) {
	most := 0
	for seed := range int64(300) {
		w := newWorld(seed, 1)
		x := closing(until, nil)
		x.Promises = w.promises()
		want := plainEntries(last, w.s.Logged, x)
		wantEntries(t, "of chance", last, w.s.Logged, x, want...)
		wantEntries(t, "none is logged", last, nil, x, plainEntries(last, nil, x)...)
		wantEntries(t, "from the beginning", 0, w.s.Logged, x, plainEntries(0, w.s.Logged, x)...)
		most = max(most, len(want))
	}
	if most < 6 {
		t.Errorf("at most %d entries: too few to tell anything", most)
	}
}

func TestMakeOfChance(t *testing.T) {
	counts := map[api.Errno]int{}
	for seed := range int64(400) {
		w := newWorld(seed, 1+int(seed%2))
		l, openings, tombs := w.promises(), w.openings(w.places(w.Intn(200))), w.tombs(w.places(w.Intn(200)))
		want, e := plainMake(w.s, until, l, openings, tombs, from(0, 200))
		wantMade(t, "of chance", w.s, until, l, openings, tombs, want, e)
		counts[e]++
	}
	if counts[api.OK] < 100 || counts[api.ErrQuorum] < 10 {
		t.Errorf("too few of a kind to tell anything: %v", counts)
	}
}

// Batches that are made are valid, unless a part of them is not right; and so are ones that are put together in order.
func TestValidOfChance(t *testing.T) {
	counts := map[bool]int{}
	for seed := range int64(600) {
		w := newWorld(seed, 1+int(seed%2))
		n := w.Intn(20)
		l, openings, tombs := w.promises(), w.openings(w.places(n)), w.tombs(w.places(w.Intn(8)))
		x, e := batch.Make(w.s, until, l, openings, tombs)
		if e != api.OK {
			continue
		}
		want := plainValid(w.b, w.s, x)
		wantValid(t, "made", w.b, w.s, x, want)
		counts[want]++
		x.Openings = slices.SortedFunc(slices.Values(openings), func(a, b api.Opening) int { return a.Index - b.Index })
		x.Openings = slices.CompactFunc(x.Openings, func(a, b api.Opening) bool { return a.Index == b.Index })
		wantValid(t, "put together", w.b, w.s, x, plainValid(w.b, w.s, x))
	}
	if counts[true] < 100 || counts[false] < 100 {
		t.Errorf("too few of a kind to tell anything: %v", counts)
	}
}

// Where all that is handed in is right, what is made is valid, of any size.
func TestWhatIsMadeIsValid(t *testing.T) {
	for _, f := range []int{1, 2, 5, api.MaxF} {
		for seed := range int64(12) {
			r := rand.New(rand.NewSource(seed))
			b, s := book.New(), baseOf(f, from(10, 80)...)
			var l []api.Promise
			for _, replica := range r.Perm(3*f + 1)[:2*f+1+r.Intn(f+1)] {
				l = append(l, promiseOf(b, replica, certOf(b, f, request(b, 1, 9, r.Intn(3)), uint64(1+r.Intn(until)))))
			}
			var openings []api.Opening
			var tombs []api.Tomb
			for _, i := range r.Perm(100) {
				if r.Intn(3) > 0 {
					openings = append(openings, openingAt(i), unlike(i)[0])
				}
				if r.Intn(2) > 0 {
					tombs = append(tombs, tombOf(b, i, from(r.Intn(f+1), 2*f+1)...))
				}
			}
			x, e := batch.Make(s, until, l, openings, tombs)
			if e != api.OK || len(x.Promises) != 2*f+1 || len(x.Openings) < 30 || len(x.Tombs) < 5 {
				t.Fatalf("F %d, %d promises: %s, %d", f, len(l), brief(x), e)
			}
			wantValid(t, "made", b, s, x, true)
		}
	}
}
