package batch_test

import (
	"crypto/sha256"
	"encoding/binary"
	"fmt"
	"math"
	"slices"
	"testing"

	"gavel/api"
	"gavel/batch"
	"gavel/book"
)

// The epoch that most batches of these tests close: its number, the last time, and the time that closes it.
const (
	epoch = 5
	last  = 100
	until = 200
	end   = math.MaxUint64 // of time: NoTime
)

// conf is the service of most tests: four replicas, three clients.
var conf = confOf(1)

func confOf(f int) api.Conf {
	return api.Conf{F: f, Clients: 3}
}

// hashOf is a hash whose bytes differ with their place, and with salt.
func hashOf(salt int) api.Hash {
	var h api.Hash
	for i := range h {
		h[i] = byte(i*11 + salt*17 + 5)
	}
	h[30], h[31] = byte(salt>>8), byte(salt)
	return h
}

func name(client, seq int) api.Name { return api.Name{Client: client, Seq: seq} }

// The bytes that are signed or hashed, without the project's own writer, which writes 0 for a number below it.

func ints(b []byte, l ...int) []byte {
	for _, n := range l {
		b = binary.AppendUvarint(b, uint64(max(n, 0)))
	}
	return b
}

func hashed(b []byte, n api.Name, h api.Hash) []byte {
	return append(ints(b, n.Client, n.Seq), h[:]...)
}

func stampBytes(b []byte, s api.Stamp) []byte {
	return binary.AppendUvarint(hashed(ints(b, s.Replica), s.Name, s.Hash), s.Time)
}

func certBytes(b []byte, x api.Cert) []byte {
	b = hashed(b, x.Commit.Name, x.Commit.Hash)
	b = ints(b, x.Commit.Len, x.Commit.Sig.By, x.Commit.Sig.Mark, len(x.Stamps))
	for _, s := range x.Stamps {
		b = ints(stampBytes(b, s), s.Sig.By, s.Sig.Mark)
	}
	return b
}

func promiseText(p api.Promise) []byte {
	b := binary.AppendUvarint(ints([]byte("\x07promise"), p.Replica, p.Epoch), p.Floor)
	b = ints(b, len(p.Certs))
	for _, x := range p.Certs {
		b = certBytes(b, x)
	}
	return b
}

func denyText(d api.Deny) []byte {
	return ints([]byte("\x04deny"), d.Replica, d.Index)
}

// committed is what a request is committed to by.
func committed(n api.Name, nonce api.Hash, payload []byte) api.Hash {
	b := hashed([]byte("\x06commit"), n, nonce)
	return sha256.Sum256(append(ints(b, len(payload)), payload...))
}

// request is a commitment of the hash of that salt, signed by its client.
func request(b *book.Book, client, seq, salt int) api.Commit {
	x := api.Commit{Name: name(client, seq), Hash: hashOf(salt), Len: 5}
	x.Sig = b.Sign(api.ClientBase+client, ints(hashed([]byte("\x07request"), x.Name, x.Hash), x.Len))
	return x
}

// certWith is a certificate of x with stamps of these times, the first of replica 0, each other one of the next.
func certWith(b *book.Book, x api.Commit, times ...uint64) api.Cert {
	y := api.Cert{Commit: x}
	for i, time := range times {
		s := api.Stamp{Replica: i, Name: x.Name, Hash: x.Hash, Time: time}
		s.Sig = b.Sign(i, stampBytes([]byte("\x05stamp"), s))
		y.Stamps = append(y.Stamps, s)
	}
	return y
}

// certOf is a right certificate of x with that median: f times are above it, where there is room, then f below it, and it is the last.
func certOf(b *book.Book, f int, x api.Commit, median uint64) api.Cert {
	var times []uint64
	for i := range uint64(f) {
		times = append(times, median+min(i+1, end-1-median))
	}
	for i := range uint64(f) {
		times = append(times, median-min(i+1, median-1))
	}
	return certWith(b, x, append(times, median)...)
}

// certAt is one of four replicas, of the request of that name and salt.
func certAt(b *book.Book, client, seq, salt int, median uint64) api.Cert {
	return certOf(b, 1, request(b, client, seq, salt), median)
}

// promiseBy is p, signed by that one.
func promiseBy(b *book.Book, by int, p api.Promise) api.Promise {
	p.Sig = b.Sign(by, promiseText(p))
	return p
}

// promiseOf is a replica's promise of the epoch, signed by it.
func promiseOf(b *book.Book, replica int, l ...api.Cert) api.Promise {
	return promiseBy(b, replica, api.Promise{Replica: replica, Epoch: epoch, Floor: until, Certs: l})
}

// promisesOf are promises of these replicas, without certificates.
func promisesOf(b *book.Book, replicas ...int) []api.Promise {
	var l []api.Promise
	for _, r := range replicas {
		l = append(l, promiseOf(b, r))
	}
	return l
}

// denyBy is d, signed by that one.
func denyBy(b *book.Book, by int, d api.Deny) api.Deny {
	d.Sig = b.Sign(by, denyText(d))
	return d
}

// tombOf is a tombstone of index i with denies of these replicas, each signed by its own.
func tombOf(b *book.Book, i int, replicas ...int) api.Tomb {
	t := api.Tomb{Index: i}
	for _, r := range replicas {
		t.Denies = append(t.Denies, denyBy(b, r, api.Deny{Replica: r, Index: i}))
	}
	return t
}

// upTo are the replicas from 0 to below n.
func upTo(n int) []int {
	var l []int
	for i := range n {
		l = append(l, i)
	}
	return l
}

// What stands at index i, if it is open: each index has a name, a payload and a nonce of its own.

func nameAt(i int) api.Name {
	return name((i%3+3)%3, i/3+1)
}

func openingAt(i int) api.Opening {
	return api.Opening{Index: i, Payload: fmt.Appendf(nil, "payload %d", i), Nonce: hashOf(i)}
}

// entryOf is the entry that o opens, if it is of that name.
func entryOf(n api.Name, o api.Opening) api.Entry {
	return api.Entry{Name: n, Hash: committed(n, o.Nonce, o.Payload), Time: 50}
}

// openingsAt and tombsAt are of these indexes.

func openingsAt(indexes ...int) []api.Opening {
	var l []api.Opening
	for _, i := range indexes {
		l = append(l, openingAt(i))
	}
	return l
}

func tombsAt(b *book.Book, indexes ...int) []api.Tomb {
	var l []api.Tomb
	for _, i := range indexes {
		l = append(l, tombOf(b, i, 0, 1, 2))
	}
	return l
}

// baseOf is what is ahead of the epoch, where these indexes are open.
func baseOf(f int, open ...int) batch.Base {
	s := batch.Base{Conf: confOf(f), Epoch: epoch, Last: last, Logged: map[api.Name]bool{}, Open: map[int]api.Entry{}}
	for _, i := range open {
		s.Open[i] = entryOf(nameAt(i), openingAt(i))
		s.Logged[nameAt(i)] = true
	}
	return s
}

// from are n indexes from i on.
func from(i, n int) []int {
	var l []int
	for k := range n {
		l = append(l, i+k)
	}
	return l
}

// told is x as a text: nil and the empty list are the same in it, and a map is told by its keys.
func told(x ...any) string {
	return fmt.Sprintf("%v", x)
}

// brief is the beginning of x told.
func brief(x any) string {
	s := fmt.Sprintf("%+v", x)
	return s[:min(len(s), 400)]
}

// lists calls do with each list of up to most of the pool, each as often as there is room.
func lists[T any](pool []T, most int, do func([]T)) {
	var l []T
	var more func(n int)
	more = func(n int) {
		do(slices.Clone(l))
		for _, x := range pool {
			if n > 0 {
				l = append(l, x)
				more(n - 1)
				l = l[:len(l)-1]
			}
		}
	}
	more(most)
}

// orders calls do with each order of l.
func orders[T any](l []T, do func([]T)) {
	var turn func(at int)
	turn = func(at int) {
		if at == len(l) {
			do(slices.Clone(l))
			return
		}
		for i := at; i < len(l); i++ {
			l[at], l[i] = l[i], l[at]
			turn(at + 1)
			l[at], l[i] = l[i], l[at]
		}
	}
	turn(0)
}

// rising tells whether numbers rise.
func rising(l []int) bool {
	for i := 1; i < len(l); i++ {
		if l[i] <= l[i-1] {
			return false
		}
	}
	return true
}

// wantValid expects that x is valid, or is not, and that nothing is signed or changed.
func wantValid(t *testing.T, what string, b *book.Book, s batch.Base, x api.Batch, want bool) {
	t.Helper()
	marks, before := b.Len(), told(s, x)
	if got := batch.Valid(b, s, x); got != want {
		t.Errorf("%s: Valid is %v: %s", what, got, brief(x))
	}
	if b.Len() != marks || told(s, x) != before {
		t.Errorf("%s: Valid has changed something", what)
	}
}

// wantMade expects that batch of s, and that nothing is changed.
func wantMade(t *testing.T, what string, s batch.Base, time uint64, l []api.Promise, openings []api.Opening, tombs []api.Tomb, want api.Batch, e api.Errno) {
	t.Helper()
	before := told(s, l, openings, tombs)
	got, gotE := batch.Make(s, time, l, openings, tombs)
	if told(got) != told(want) || gotE != e {
		t.Errorf("%s: %s (%d), want %s (%d)", what, brief(got), gotE, brief(want), e)
	}
	if told(s, l, openings, tombs) != before {
		t.Errorf("%s: Make has changed something", what)
	}
}

// wantEntries expects just these, and that nothing is changed.
func wantEntries(t *testing.T, what string, last uint64, logged map[api.Name]bool, x api.Batch, want ...api.Entry) {
	t.Helper()
	before := told(logged, x)
	if got := batch.Entries(last, logged, x); !slices.Equal(got, want) {
		t.Errorf("%s: %s, want %s", what, brief(got), brief(want))
	}
	if told(logged, x) != before {
		t.Errorf("%s: Entries has changed something", what)
	}
}
