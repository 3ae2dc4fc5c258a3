package batch

import (
	"gavel/api"
	"gavel/book"
	"gavel/lock"
	"gavel/roster"
	"gavel/wire"
)

// Valid tells whether x may close the epoch of s.
func Valid(b *book.Book, s Base, x api.Batch) bool {
	return x.Epoch == s.Epoch && x.Time > s.Last && x.Time != api.NoTime &&
		validOpenings(s.Open, x.Openings) && validTombs(b, s, x) && validPromises(b, s.Conf, x)
}

// RightTomb tells whether t has right denies of its index by rising replicas, as many as a quorum is.
func RightTomb(c api.Conf, b *book.Book, t api.Tomb) bool {
	if len(t.Denies) != wire.Quorum(c) || !rise(t.Denies, func(d api.Deny) int { return d.Replica }) {
		return false
	}
	for _, d := range t.Denies {
		if d.Index != t.Index || !RightDeny(c, b, d) {
			return false
		}
	}
	return true
}

// RightDeny tells whether d may be, and its replica signed it.
func RightDeny(c api.Conf, b *book.Book, d api.Deny) bool {
	return d.Index >= 0 && roster.Signed(c, b, d.Replica, d.Sig, wire.DenyText(d))
}

// validPromises tells whether x's promises are right ones of its epoch and its time by rising replicas, as many as a quorum is.
func validPromises(b *book.Book, c api.Conf, x api.Batch) bool {
	if len(x.Promises) != wire.Quorum(c) || !rise(x.Promises, replicaOf) {
		return false
	}
	for _, p := range x.Promises {
		if p.Epoch != x.Epoch || p.Floor != x.Time || !lock.Right(c, b, p) {
			return false
		}
	}
	return true
}

// validOpenings tells whether l are no more than a batch may have, by rising indexes, each short enough and what was committed to there.
func validOpenings(open map[int]api.Entry, l []api.Opening) bool {
	if len(l) > most || !rise(l, openedAt) {
		return false
	}
	for _, o := range l {
		if len(o.Payload) > api.MaxPayload || !matches(open, o) {
			return false
		}
	}
	return true
}

// validTombs tells whether x's tombstones are no more than a batch may have, by rising indexes, each right and of an open place that x does not open.
func validTombs(b *book.Book, s Base, x api.Batch) bool {
	if len(x.Tombs) > most || !rise(x.Tombs, buriedAt) {
		return false
	}
	for _, t := range x.Tombs {
		if !mayBury(s.Open, x.Openings, t) || !RightTomb(s.Conf, b, t) {
			return false
		}
	}
	return true
}

// rise tells whether each number is above the one ahead of it.
func rise[T any](l []T, number func(T) int) bool {
	for i := 1; i < len(l); i++ {
		if number(l[i]) <= number(l[i-1]) {
			return false
		}
	}
	return true
}
