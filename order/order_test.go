package order_test

import (
	"math"
	"testing"

	"gavel/api"
	"gavel/order"
)

// wantOrder expects that each stands ahead of all behind it, and that none stands ahead of itself.
func wantOrder[T any](t *testing.T, call func(a, b T) int, l []T) {
	t.Helper()
	for i, a := range l {
		for j, b := range l {
			if got := call(a, b); got < 0 != (i < j) || got > 0 != (i > j) {
				t.Errorf("%v and %v: %d", a, b, got)
			}
		}
	}
}

func names() []api.Name {
	numbers := []int{math.MinInt, -1 << 32, -1, 0, 1, 2, 9, 10, 127, 128, 1 << 32, 1<<32 + 1, math.MaxInt}
	var l []api.Name
	for _, client := range numbers {
		for _, seq := range numbers {
			l = append(l, api.Name{Client: client, Seq: seq})
		}
	}
	return l
}

func TestNames(t *testing.T) {
	wantOrder(t, order.Names, names())
}

func TestEntries(t *testing.T) {
	var l []api.Entry
	for _, time := range []uint64{0, 1, 127, 128, 1<<63 - 1, 1 << 63, math.MaxUint64} {
		for _, n := range names() {
			l = append(l, api.Entry{Name: n, Time: time})
		}
	}
	wantOrder(t, order.Entries, l)
}

// The hash bears on no order: two entries of one name and time stand nowhere ahead of one another.
func TestEntriesOfUnlikeHashes(t *testing.T) {
	a, b := api.Entry{Time: 3}, api.Entry{Time: 3, Hash: api.Hash{1}}
	if order.Entries(a, b) != 0 || order.Entries(b, a) != 0 {
		t.Error("of unlike hashes one stands ahead")
	}
}
