package part_test

import (
	"fmt"
	"testing"

	"gavel/api"
	"gavel/part"
)

// R4: copies are the same, in memory of their own.

// behind is l, with one item more in the memory behind its length.
func behind[T any](l []T, x T) []T {
	return append(l, x)[:len(l)]
}

func aCert(n int) api.Cert {
	return api.Cert{
		Commit: api.Commit{Name: api.Name{Client: n, Seq: n + 1}, Hash: low(), Len: n + 2, Sig: api.Sig{By: n + 3, Mark: n + 4}},
		Stamps: behind([]api.Stamp{{Replica: n}, {Replica: n + 1, Time: 5}}, api.Stamp{Replica: 99}),
	}
}

func aPromise(n int) api.Promise {
	return api.Promise{Replica: n, Epoch: n + 1, Floor: 7, Certs: behind([]api.Cert{aCert(n), aCert(n + 5)}, aCert(99)), Sig: api.Sig{By: n, Mark: n + 8}}
}

func anOpening(n int) api.Opening {
	return api.Opening{Index: n, Payload: behind([]byte("abc"), 'z'), Nonce: high()}
}

func aBatch() api.Batch {
	tomb := func(n int) api.Tomb {
		return api.Tomb{Index: n, Denies: behind([]api.Deny{{Replica: 1, Index: n}, {Replica: 2, Index: n, Sig: api.Sig{By: 2, Mark: 9}}}, api.Deny{Replica: 99})}
	}
	return api.Batch{
		Epoch:    3,
		Time:     9,
		Promises: behind([]api.Promise{aPromise(1), aPromise(20)}, aPromise(99)),
		Openings: behind([]api.Opening{anOpening(1), anOpening(2)}, anOpening(99)),
		Tombs:    behind([]api.Tomb{tomb(3), tomb(4)}, tomb(99)),
	}
}

func aProposal() api.Proposal {
	return api.Proposal{Epoch: 1, Round: 2, Valid: -1, Replica: 4, Batch: aBatch(), Sig: api.Sig{By: 5, Mark: 6}}
}

func aDecided() api.Decided {
	return api.Decided{Epoch: 1, Round: 2, Batch: aBatch(), Votes: behind([]api.Vote{{Kind: 2, Hash: low()}, {Kind: 2, Replica: 3}}, api.Vote{Kind: 99})}
}

// overwrite clears every list of a part, to the end of its memory, and those within it first.
func overwrite(x any) {
	switch x := x.(type) {
	case api.Cert:
		clear(x.Stamps[:cap(x.Stamps)])
	case api.Promise:
		for _, c := range x.Certs {
			overwrite(c)
		}
		clear(x.Certs[:cap(x.Certs)])
	case api.Opening:
		clear(x.Payload[:cap(x.Payload)])
	case api.Batch:
		for _, p := range x.Promises {
			overwrite(p)
		}
		for _, o := range x.Openings {
			overwrite(o)
		}
		for _, d := range x.Tombs {
			clear(d.Denies[:cap(d.Denies)])
		}
		clear(x.Promises[:cap(x.Promises)])
		clear(x.Openings[:cap(x.Openings)])
		clear(x.Tombs[:cap(x.Tombs)])
	case api.Proposal:
		overwrite(x.Batch)
	case api.Decided:
		overwrite(x.Batch)
		clear(x.Votes[:cap(x.Votes)])
	}
}

// copies expects a copy that stays as it is whatever becomes of the first one, and the other way about.
func copies[T any](t *testing.T, fresh func() T, copyOne func(T) T) {
	t.Helper()
	want := fmt.Sprintf("%+v", fresh())
	x := fresh()
	y := copyOne(x)
	if got := fmt.Sprintf("%+v", y); got != want {
		t.Errorf("%T: the copy is %s, want %s", x, got, want)
	}
	overwrite(x)
	if got := fmt.Sprintf("%+v", y); got != want {
		t.Errorf("%T: the copy hangs on the first one: %s, want %s", x, got, want)
	}
	x = fresh()
	overwrite(copyOne(x))
	if got := fmt.Sprintf("%+v", x); got != want {
		t.Errorf("%T: the first one hangs on the copy: %s, want %s", x, got, want)
	}
	var zero T
	if got := copyOne(zero); !same(got, zero) {
		t.Errorf("%T: a copy of nothing is %+v", zero, got)
	}
}

func TestCopies(t *testing.T) {
	copies(t, func() api.Cert { return aCert(1) }, part.CopyCert)
	copies(t, func() api.Promise { return aPromise(1) }, part.CopyPromise)
	copies(t, func() api.Opening { return anOpening(1) }, part.CopyOpening)
	copies(t, aBatch, part.CopyBatch)
	copies(t, aProposal, part.CopyProposal)
	copies(t, aDecided, part.CopyDecided)
}

func TestCopiesOfEmptyLists(t *testing.T) {
	copies(t, func() api.Decided {
		return api.Decided{Votes: []api.Vote{}, Batch: api.Batch{
			Promises: []api.Promise{{Certs: []api.Cert{{Stamps: []api.Stamp{}}, {}}}, {Certs: []api.Cert{}}},
			Openings: []api.Opening{{Payload: []byte{}}, {}},
			Tombs:    []api.Tomb{{Denies: []api.Deny{}}, {}},
		}}
	}, part.CopyDecided)
	copies(t, func() api.Batch {
		return api.Batch{Promises: []api.Promise{}, Openings: []api.Opening{}, Tombs: []api.Tomb{}}
	}, part.CopyBatch)
}
