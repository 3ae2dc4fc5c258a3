package cert_test

import (
	"encoding/binary"
	"fmt"
	"math"
	"slices"
	"testing"

	"gavel/api"
	"gavel/book"
	"gavel/cert"
	"gavel/commit"
)

const end = math.MaxUint64 // of time: NoTime

// confOf is a service of 3 F + 1 replicas, and three clients.
func confOf(f int) api.Conf {
	return api.Conf{F: f, Clients: 3}
}

// hashOf is a hash whose bytes differ with their place, and with salt.
func hashOf(salt int) api.Hash {
	var h api.Hash
	for i := range h {
		h[i] = byte(i*11 + salt*17 + 5)
	}
	return h
}

// signed is x, signed by that one.
func signed(b *book.Book, by int, x api.Commit) api.Commit {
	x.Sig = b.Sign(by, commit.Text(x))
	return x
}

// request is a commitment of the hash of that salt, as it may be, signed by its client.
func request(b *book.Book, client, seq, salt int) api.Commit {
	x := api.Commit{Name: api.Name{Client: client, Seq: seq}, Hash: hashOf(salt), Len: 5}
	return signed(b, api.ClientBase+client, x)
}

// text is the bytes that a replica signs of its stamp, without the project's own writer, which writes 0 for a number below it.
func text(x api.Stamp) []byte {
	b := []byte("\x05stamp")
	for _, n := range []int{x.Replica, x.Name.Client, x.Name.Seq} {
		b = binary.AppendUvarint(b, uint64(max(n, 0)))
	}
	return binary.AppendUvarint(append(b, x.Hash[:]...), x.Time)
}

// signedAs is s, signed by that one.
func signedAs(b *book.Book, by int, s api.Stamp) api.Stamp {
	s.Sig = b.Sign(by, text(s))
	return s
}

// stampOf is that replica's stamp of x, with that time, signed.
func stampOf(b *book.Book, replica int, x api.Commit, time uint64) api.Stamp {
	return signedAs(b, replica, api.Stamp{Replica: replica, Name: x.Name, Hash: x.Hash, Time: time})
}

// stampsOf is stamps of x, of these replicas, with unlike times that do not rise.
func stampsOf(b *book.Book, x api.Commit, replicas ...int) []api.Stamp {
	var l []api.Stamp
	for _, replica := range replicas {
		l = append(l, stampOf(b, replica, x, uint64(1000-7*replica)))
	}
	return l
}

// upTo is the numbers from 0 to below n.
func upTo(n int) []int {
	var l []int
	for i := range n {
		l = append(l, i)
	}
	return l
}

// subsets are all lists of n rising numbers below most.
func subsets(n, most int) [][]int {
	if n == 0 {
		return [][]int{nil}
	}
	var out [][]int
	for last := n - 1; last < most; last++ {
		for _, l := range subsets(n-1, last) {
			out = append(out, append(slices.Clone(l), last))
		}
	}
	return out
}

// orders are all orders of l.
func orders[T any](l []T) [][]T {
	if len(l) == 0 {
		return [][]T{nil}
	}
	var out [][]T
	for i, first := range l {
		rest := slices.Concat(l[:i], l[i+1:])
		for _, then := range orders(rest) {
			out = append(out, append([]T{first}, then...))
		}
	}
	return out
}

// lists calls see with each list of n items of the pool, in memory that the next one takes.
func lists[T any](pool []T, n int, see func([]T)) {
	l := make([]T, n)
	var fill func(int)
	fill = func(i int) {
		if i == n {
			see(l)
			return
		}
		for _, x := range pool {
			l[i] = x
			fill(i + 1)
		}
	}
	fill(0)
}

// middleOf is the middle time told by counting: as many are below it as are above, but for its equals.
func middleOf(l []uint64) (uint64, bool) {
	for _, x := range l {
		below, equal := 0, 0
		for _, y := range l {
			if y < x {
				below++
			} else if y == x {
				equal++
			}
		}
		if len(l)%2 == 1 && below <= len(l)/2 && below+equal > len(l)/2 {
			return x, true
		}
	}
	return 0, false
}

// timesOf is the stamps' times.
func timesOf(l []api.Stamp) []uint64 {
	var out []uint64
	for _, s := range l {
		out = append(out, s.Time)
	}
	return out
}

// sameCert tells whether two certificates are the same, nil and the empty list being so.
func sameCert(x, y api.Cert) bool {
	return x.Commit == y.Commit && slices.Equal(x.Stamps, y.Stamps)
}

// wantRight expects that x is right, or is not, and that nothing is signed.
func wantRight(t *testing.T, what string, c api.Conf, b *book.Book, x api.Cert, want bool) {
	t.Helper()
	marks, before := b.Len(), api.Cert{Commit: x.Commit, Stamps: slices.Clone(x.Stamps)}
	if got := cert.Right(c, b, x); got != want {
		t.Errorf("%s: Right is %v", what, got)
	}
	if b.Len() != marks || !sameCert(x, before) {
		t.Errorf("%s: Right has changed something", what)
	}
}

// wantStamp expects that s is right, or is not, and that nothing is signed.
func wantStamp(t *testing.T, what string, c api.Conf, b *book.Book, s api.Stamp, want bool) {
	t.Helper()
	marks := b.Len()
	if got := cert.RightStamp(c, b, s); got != want {
		t.Errorf("%s: RightStamp of %v is %v", what, s, got)
	}
	if b.Len() != marks {
		t.Errorf("%s: RightStamp has signed something", what)
	}
}

// wantMade expects a certificate of x with just these stamps, none if there are none, and that l is not changed.
func wantMade(t *testing.T, what string, c api.Conf, x api.Commit, l, want []api.Stamp) api.Cert {
	t.Helper()
	before := slices.Clone(l)
	got, e := cert.Make(c, x, l...)
	if want == nil && (!sameCert(got, api.Cert{}) || e != api.ErrQuorum) {
		t.Fatalf("%s: %v (%d), want none", what, got, e)
	}
	if want != nil && (!sameCert(got, api.Cert{Commit: x, Stamps: want}) || e != api.OK) {
		t.Fatalf("%s: %v (%d), want stamps %v", what, got, e, want)
	}
	if !slices.Equal(l, before) {
		t.Fatalf("%s: what was handed in is changed", what)
	}
	return got
}

// wantMedian expects the median that counting tells, and that l is not changed.
func wantMedian(t *testing.T, what string, l []uint64) {
	t.Helper()
	before := slices.Clone(l)
	want, ok := middleOf(l)
	if got, is := cert.Median(l...); got != want || is != ok {
		t.Fatalf("%s: the median of %v is %d, %v, want %d, %v", what, brief(l), got, is, want, ok)
	}
	if !slices.Equal(l, before) {
		t.Fatalf("%s: what was handed in is changed", what)
	}
}

// brief is the beginning of x told.
func brief(x any) string {
	s := fmt.Sprint(x)
	return s[:min(len(s), 300)]
}
