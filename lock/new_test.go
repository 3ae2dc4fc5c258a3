package lock_test

import (
	"math"
	"testing"

	"gavel/api"
	"gavel/book"
	"gavel/lock"
)

// P11.1: New; what a new table answers to each call

func TestNewOfConfigurations(t *testing.T) {
	for _, f := range []int{math.MinInt, -1 << 32, -1, 0, 1, 2, 20, 21, 22, 1 << 32, 1<<32 + 1, math.MaxInt} {
		for _, clients := range []int{math.MinInt, -1, 0, 1, 2, 99, 100, 101, 1 << 32, 1<<32 + 1, math.MaxInt} {
			for _, replica := range []int{0, 1, 3} {
				may := f >= 1 && f <= 21 && clients >= 1 && clients <= 100
				wantNew(t, api.Conf{F: f, Clients: clients}, replica, may)
			}
		}
	}
}

func TestNewOfReplicas(t *testing.T) {
	for f := 1; f <= api.MaxF; f++ {
		for replica := -3; replica < 3*f+8; replica++ {
			wantNew(t, confOf(f), replica, replica >= 0 && replica < 3*f+1)
		}
		for _, replica := range []int{math.MinInt, -1 << 32, 1 << 32, api.ClientBase, math.MaxInt} {
			wantNew(t, confOf(f), replica, false)
		}
	}
}

func wantNew(t *testing.T, c api.Conf, replica int, may bool) {
	t.Helper()
	table, e := lock.New(c, replica)
	if may && (table == nil || e != api.OK) || !may && (table != nil || e != api.ErrArg) {
		t.Errorf("New(%v, %d): %v, %d", c, replica, table, e)
	}
}

func TestANewTable(t *testing.T) {
	b := book.New()
	table := fresh(t, conf, 2)
	wantHeld(t, "a new table", table)
	for _, n := range names() {
		if got := table.Forget(n); got != 0 {
			t.Errorf("Forget of %v: %d", n, got)
		}
	}
	wantHeld(t, "asked", table)
	got, e := table.Promise(b, 0, 0, 1)
	want := api.Promise{Replica: 2, Epoch: 0, Floor: 1, Sig: api.Sig{By: 2, Mark: 1}}
	if !samePromise(got, want) || e != api.OK || !b.Right(got.Sig, []byte("\x07promise\x02\x00\x01\x00")) {
		t.Errorf("Promise: %v (%d), want %v", got, e, want)
	}
	if !lock.Right(conf, b, got) {
		t.Error("it is not right")
	}
}
