package lock_test

import (
	"encoding/binary"
	"fmt"
	"math"
	"slices"
	"testing"

	"gavel/api"
	"gavel/book"
	"gavel/commit"
	"gavel/lock"
)

const end = math.MaxUint64 // of time: NoTime

// conf is the service of most tests: four replicas, three clients.
var conf = confOf(1)

func confOf(f int) api.Conf {
	return api.Conf{F: f, Clients: 3}
}

// hashOf is a hash whose bytes differ with their place, and with salt.
func hashOf(salt int) api.Hash {
	var h api.Hash
	for i := range h {
		h[i] = byte(i*11 + salt*17 + 5)
	}
	return h
}

func name(client, seq int) api.Name { return api.Name{Client: client, Seq: seq} }

// signed is x, signed by that one.
func signed(b *book.Book, by int, x api.Commit) api.Commit {
	x.Sig = b.Sign(by, commit.Text(x))
	return x
}

// request is a commitment of the hash of that salt, signed by its client.
func request(b *book.Book, client, seq, salt int) api.Commit {
	return signed(b, api.ClientBase+client, api.Commit{Name: name(client, seq), Hash: hashOf(salt), Len: 5})
}

// The bytes that a replica signs, without the project's own writer, which writes 0 for a number below it.

func ints(b []byte, l ...int) []byte {
	for _, n := range l {
		b = binary.AppendUvarint(b, uint64(max(n, 0)))
	}
	return b
}

func hashed(b []byte, n api.Name, h api.Hash, time uint64) []byte {
	return binary.AppendUvarint(append(ints(b, n.Client, n.Seq), h[:]...), time)
}

func stampBytes(b []byte, s api.Stamp) []byte {
	return hashed(ints(b, s.Replica), s.Name, s.Hash, s.Time)
}

func ackText(a api.Ack) []byte {
	return hashed(ints([]byte("\x03ack"), a.Replica), a.Name, a.Hash, a.Median)
}

func certBytes(b []byte, x api.Cert) []byte {
	b = append(ints(b, x.Commit.Name.Client, x.Commit.Name.Seq), x.Commit.Hash[:]...)
	b = ints(b, x.Commit.Len, x.Commit.Sig.By, x.Commit.Sig.Mark, len(x.Stamps))
	for _, s := range x.Stamps {
		b = ints(stampBytes(b, s), s.Sig.By, s.Sig.Mark)
	}
	return b
}

func promiseText(p api.Promise) []byte {
	b := binary.AppendUvarint(ints([]byte("\x07promise"), p.Replica, p.Epoch), p.Floor)
	b = ints(b, len(p.Certs))
	for _, x := range p.Certs {
		b = certBytes(b, x)
	}
	return b
}

// stampBy is s, signed by that one.
func stampBy(b *book.Book, by int, s api.Stamp) api.Stamp {
	s.Sig = b.Sign(by, stampBytes([]byte("\x05stamp"), s))
	return s
}

// promiseBy is p, signed by that one.
func promiseBy(b *book.Book, by int, p api.Promise) api.Promise {
	p.Sig = b.Sign(by, promiseText(p))
	return p
}

// ackBy is a, signed by that one.
func ackBy(b *book.Book, by int, a api.Ack) api.Ack {
	a.Sig = b.Sign(by, ackText(a))
	return a
}

// certWith is a certificate of x with stamps of these times, the first of that replica, each other one of the next.
func certWith(b *book.Book, x api.Commit, first int, times ...uint64) api.Cert {
	y := api.Cert{Commit: x}
	for i, time := range times {
		s := api.Stamp{Replica: first + i, Name: x.Name, Hash: x.Hash, Time: time}
		y.Stamps = append(y.Stamps, stampBy(b, first+i, s))
	}
	return y
}

// certOf is a right certificate of x with that median: f times are above it, where there is room, then f below it, and it is the last.
func certOf(b *book.Book, f int, x api.Commit, median uint64) api.Cert {
	var times []uint64
	for i := range uint64(f) {
		times = append(times, median+min(i+1, end-1-median))
	}
	for i := range uint64(f) {
		times = append(times, median-min(i+1, median-1))
	}
	return certWith(b, x, 0, append(times, median)...)
}

// certAt is one of a new request, of four replicas.
func certAt(b *book.Book, client, seq int, median uint64) api.Cert {
	return certOf(b, 1, request(b, client, seq, 1), median)
}

// certsAt are certificates of requests of the three clients, of rising numbers, with these medians, by rising names.
func certsAt(b *book.Book, medians ...uint64) []api.Cert {
	var l []api.Cert
	each := (len(medians) + 2) / 3
	for i, median := range medians {
		l = append(l, certAt(b, i/each, i%each+1, median))
	}
	return l
}

// same tells medians that are all that one.
func same(n int, median uint64) []uint64 {
	return slices.Repeat([]uint64{median}, n)
}

// turned is x in memory of its own, changed.
func turned(x api.Cert, do func(*api.Cert)) api.Cert {
	x.Stamps = slices.Clone(x.Stamps)
	do(&x)
	return x
}

// medianOf is the middle time of a certificate, told by counting; 0, if there is none.
func medianOf(x api.Cert) uint64 {
	for _, s := range x.Stamps {
		below, equal := 0, 0
		for _, other := range x.Stamps {
			if other.Time < s.Time {
				below++
			} else if other.Time == s.Time {
				equal++
			}
		}
		if len(x.Stamps)%2 == 1 && below <= len(x.Stamps)/2 && below+equal > len(x.Stamps)/2 {
			return s.Time
		}
	}
	return 0
}

// Two parts are the same also where one has nil and the other one the empty list.

func sameCert(x, y api.Cert) bool {
	return x.Commit == y.Commit && slices.Equal(x.Stamps, y.Stamps)
}

func sameCerts(x, y []api.Cert) bool {
	return slices.EqualFunc(x, y, sameCert)
}

func samePromise(p, q api.Promise) bool {
	return p.Replica == q.Replica && p.Epoch == q.Epoch && p.Floor == q.Floor && p.Sig == q.Sig && sameCerts(p.Certs, q.Certs)
}

// copied is l in memory of its own.
func copied(l []api.Cert) []api.Cert {
	var out []api.Cert
	for _, x := range l {
		out = append(out, turned(x, func(*api.Cert) {}))
	}
	return out
}

// wipe overwrites all that is in l's memory, and behind its length.
func wipe(l []api.Cert) {
	for _, x := range l {
		clear(x.Stamps[:cap(x.Stamps)])
	}
	clear(l[:cap(l)])
}

// brief is the beginning of x told.
func brief(x any) string {
	s := fmt.Sprint(x)
	return s[:min(len(s), 300)]
}

// fresh is a new table.
func fresh(t *testing.T, c api.Conf, replica int) *lock.Table {
	t.Helper()
	table, e := lock.New(c, replica)
	if table == nil || e != api.OK {
		t.Fatalf("New(%v, %d): %v, %d", c, replica, table, e)
	}
	return table
}

// filled is a table of replica 2 that holds these.
func filled(t *testing.T, b *book.Book, l ...api.Cert) *lock.Table {
	t.Helper()
	table := fresh(t, conf, 2)
	for _, x := range l {
		take(t, b, table, 2, 0, x)
	}
	return table
}

// take has x taken, a new name, by that replica's table, and expects the ack of it, and that just its text is signed.
func take(t *testing.T, b *book.Book, table *lock.Table, replica int, floor uint64, x api.Cert) api.Ack {
	t.Helper()
	n, before, then := table.Len(), copied([]api.Cert{x}), b.Clone()
	want := ackBy(then, replica, api.Ack{Replica: replica, Name: x.Commit.Name, Hash: x.Commit.Hash, Median: medianOf(x)})
	got, e := table.Take(b, floor, x)
	if got != want || e != api.OK {
		t.Fatalf("Take of %v: %v (%d), want %v", x.Commit.Name, got, e, want)
	}
	if !b.Right(got.Sig, ackText(got)) || b.Len() != then.Len() || table.Len() != n+1 {
		t.Fatalf("Take of %v: not just its ack was signed, or it does not count as one", x.Commit.Name)
	}
	if held, ok := table.Get(x.Commit.Name); !ok || !sameCert(held, before[0]) || !sameCert(x, before[0]) {
		t.Fatalf("Take of %v: it holds %s, %v", x.Commit.Name, brief(held), ok)
	}
	return got
}

// refuse has x taken, and expects that error, and that nothing is changed.
func refuse(t *testing.T, what string, b *book.Book, table *lock.Table, floor uint64, x api.Cert, want api.Errno) {
	t.Helper()
	marks, held, before := b.Len(), table.Held(), copied([]api.Cert{x})
	if got, e := table.Take(b, floor, x); got != (api.Ack{}) || e != want {
		t.Errorf("%s: %v (%d), want %d", what, got, e, want)
	}
	if b.Len() != marks || !sameCerts(table.Held(), held) || !sameCert(x, before[0]) {
		t.Errorf("%s: something is changed", what)
	}
}

// repeat has x taken, and expects the ack that there is, and that nothing is changed.
func repeat(t *testing.T, what string, b *book.Book, table *lock.Table, floor uint64, x api.Cert, want api.Ack) {
	t.Helper()
	marks, held, before := b.Len(), table.Held(), copied([]api.Cert{x})
	if got, e := table.Take(b, floor, x); got != want || e != api.OK {
		t.Errorf("%s: %v (%d), want %v", what, got, e, want)
	}
	if b.Len() != marks || !sameCerts(table.Held(), held) || !sameCert(x, before[0]) {
		t.Errorf("%s: something is changed", what)
	}
}

// wantHeld expects that just these are held, by Held in this order.
func wantHeld(t *testing.T, what string, table *lock.Table, l ...api.Cert) {
	t.Helper()
	if got := table.Held(); !sameCerts(got, l) || table.Len() != len(l) {
		t.Errorf("%s: Held %s, Len %d, want %s", what, brief(got), table.Len(), brief(l))
	}
	there := map[api.Name]bool{}
	for _, x := range l {
		there[x.Commit.Name] = true
		if got, ok := table.Get(x.Commit.Name); !ok || !sameCert(got, x) {
			t.Errorf("%s: Get of %v: %s, %v", what, x.Commit.Name, brief(got), ok)
		}
	}
	for _, n := range names() {
		if got, ok := table.Get(n); !there[n] && (ok || !sameCert(got, api.Cert{})) {
			t.Errorf("%s: Get of %v, not held: %s, %v", what, n, brief(got), ok)
		}
	}
}

// names are those that may be, and some that may not.
func names() []api.Name {
	var l []api.Name
	for _, client := range []int{math.MinInt, -1, 0, 1, 2, 3, 99, 100, api.ClientBase, api.ClientBase + 1, math.MaxInt} {
		for _, seq := range []int{math.MinInt, -1, 0, 1, 2, 3, api.MaxSeq, api.MaxSeq + 1, math.MaxInt} {
			l = append(l, name(client, seq))
		}
	}
	return l
}
