package ledger_test

import (
	"fmt"
	"math/rand"
	"testing"

	"gavel/api"
	"gavel/ledger"
)

// P15.1, P15.2: all calls, held against the plain ledger

// Each order of three deeds behind each past.
func TestEachOrderOfFewDeeds(t *testing.T) {
	for _, past := range pasts() {
		l, same := ledger.New(), &plain{}
		run(t, l, same, past...)
		each(t, l, same, 3)
	}
}

// each does each deed to clones of both, and then each, so many deep.
func each(t *testing.T, l *ledger.Ledger, same *plain, deep int) {
	t.Helper()
	if deep == 0 {
		return
	}
	for _, d := range deeds() {
		c, other := l.Clone(), same.Clone()
		run(t, c, other, d)
		each(t, c, other, deep-1)
	}
}

// anyBatch is a batch of chance, of the next epoch and a later time more often than not.
func anyBatch(r *rand.Rand, l teller) api.Batch {
	x := api.Batch{Epoch: l.Epoch(), Time: l.Last() + 1 + uint64(r.Intn(5))}
	switch r.Intn(12) {
	case 0:
		x.Epoch += r.Intn(5) - 2
	case 1:
		x.Time = l.Last() - min(l.Last(), uint64(r.Intn(3)))
	}
	for range r.Intn(4) {
		p := api.Promise{Replica: r.Intn(4)}
		for range r.Intn(4) {
			p.Certs = append(p.Certs, cert(entry(r.Intn(3), r.Intn(12), r.Intn(3), l.Last()+uint64(r.Intn(7)))))
		}
		x.Promises = append(x.Promises, p)
	}
	index := func() int { return r.Intn(l.Len()+4) - 2 }
	for range r.Intn(4) {
		x.Openings = append(x.Openings, opening(index(), fmt.Sprint(r.Intn(1000))[r.Intn(2):]))
	}
	for range r.Intn(3) {
		x.Tombs = append(x.Tombs, tombs(index())...)
	}
	return x
}

func TestLongOrdersOfChance(t *testing.T) {
	for seed := range 400 {
		r := rand.New(rand.NewSource(int64(seed)))
		l, same := ledger.New(), &plain{}
		for range 25 {
			switch r.Intn(4) {
			case 0:
				run(t, l, same, doing)
			case 1:
				l, same = l.Clone(), same.Clone()
			default:
				x := anyBatch(r, same)
				run(t, l, same, func(l doer) string { return fmt.Sprint(l.Apply(x)) })
			}
		}
	}
}
