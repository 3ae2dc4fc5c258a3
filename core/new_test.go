package core_test

import (
	"math"
	"math/big"
	"testing"

	"gavel/api"
	"gavel/core"
)

// P14.1: New, Proposer

func TestNewOfEachConfiguration(t *testing.T) {
	for f := -3; f < 30; f++ {
		for clients := -3; clients < 110; clients++ {
			k, e := core.New(api.Conf{F: f, Clients: clients}, 0, 0)
			if may := f >= 1 && f <= 21 && clients >= 1 && clients <= 100; may != (e == api.OK) || may != (k != nil) {
				t.Errorf("F %d, %d clients: %v, %d", f, clients, k, e)
			}
		}
	}
}

// far are numbers that are none of anything, wherever they are cut.
var far = []int{math.MinInt, math.MinInt + 1, -1 << 40, -1 << 32, 1<<32 - 1, 1 << 32, 1<<32 + 1, 1 << 40, math.MaxInt - 1, math.MaxInt}

func TestNewOfEachEpoch(t *testing.T) {
	for _, epoch := range append([]int{-2, -1, 0, 1, 2, 255, 256, 65536, 1<<20 - 1, 1 << 20, 1<<20 + 1, 1 << 21}, far...) {
		k, e := core.New(conf, epoch, 3)
		if epoch >= 0 && epoch <= 1<<20 {
			wantNew(t, k, e)
		} else if k != nil || e != api.ErrArg {
			t.Errorf("epoch %d: %v, %d", epoch, k, e)
		}
	}
}

func TestNewOfEachReplica(t *testing.T) {
	for f := 1; f <= api.MaxF; f++ {
		for replica := -70; replica < 140; replica++ {
			k, e := core.New(confOf(f), 7, replica)
			if replica >= 0 && replica <= 3*f {
				wantNew(t, k, e)
			} else if k != nil || e != api.ErrArg {
				t.Errorf("F %d, replica %d: %v, %d", f, replica, k, e)
			}
		}
		for _, replica := range append(far, api.ClientBase) {
			if k, e := core.New(confOf(f), 7, replica); k != nil || e != api.ErrArg {
				t.Errorf("F %d, replica %d: %v, %d", f, replica, k, e)
			}
		}
	}
}

// wantNew expects a core that is not started: nothing is locked, valid or decided.
func wantNew(t *testing.T, k *core.Core, e api.Errno) {
	t.Helper()
	if k == nil || e != api.OK {
		t.Fatalf("New: %v, %d", k, e)
	}
	wantState(t, "New", k, core.State{LockedRound: -1, ValidRound: -1})
}

func TestNewWhereAllIsWrong(t *testing.T) {
	for _, c := range []api.Conf{{}, {F: 1}, {Clients: 1}, {F: 22, Clients: 1}, {F: 1, Clients: 101}, {F: math.MinInt, Clients: 1}, {F: math.MaxInt, Clients: math.MaxInt}} {
		for _, epoch := range []int{-1, 0, api.MaxEpoch + 1} {
			for _, replica := range []int{-1, 0, 4} {
				if k, e := core.New(c, epoch, replica); k != nil || e != api.ErrArg {
					t.Errorf("New(%v, %d, %d): %v, %d", c, epoch, replica, k, e)
				}
			}
		}
	}
}

func TestProposerGoesRound(t *testing.T) {
	for f := 1; f <= api.MaxF; f++ {
		want := 0
		for sum := range 300 {
			for _, epoch := range []int{0, sum / 3, sum / 2, sum} {
				if got := core.Proposer(confOf(f), epoch, sum-epoch); got != want {
					t.Errorf("F %d, epoch %d, round %d: %d, want %d", f, epoch, sum-epoch, got, want)
				}
			}
			want++
			if want == 3*f+1 {
				want = 0
			}
		}
	}
	// Worked out by hand: 1048576 is 262144 times 4, and 16384 times 64.
	for _, x := range []struct{ f, epoch, round, want int }{
		{1, 0, 0, 0}, {1, 0, 3, 3}, {1, 0, 4, 0}, {1, 2, 3, 1}, {1, 3, 0, 3},
		{1, api.MaxEpoch, 0, 0}, {1, 0, api.MaxRound, 0}, {1, 0, api.MaxRound + 1, 1}, {1, api.MaxEpoch + 2, api.MaxRound + 1, 3}, {21, api.MaxEpoch, api.MaxRound, 0}, {21, 63, api.MaxRound, 63}, {2, api.MaxEpoch, 0, 4},
		{1, math.MaxInt, 0, 3}, {1, math.MaxInt, math.MaxInt, 2}, {1, math.MaxInt, 1, 0},
	} {
		if got := core.Proposer(confOf(x.f), x.epoch, x.round); got != x.want {
			t.Errorf("F %d, epoch %d, round %d: %d, want %d", x.f, x.epoch, x.round, got, x.want)
		}
	}
}

// An epoch below 0 counts as 0, and so does a round, whatever the other one is.
func TestProposerBelowZero(t *testing.T) {
	for _, x := range []struct{ epoch, round, want int }{
		{-1, 0, 0}, {0, -1, 0}, {-1, -1, 0}, {-3, 0, 0}, {0, -3, 0}, {-4, 0, 0}, {-5, -2, 0}, {-2, -3, 0},
		{-1, 1, 1}, {1, -1, 1}, {-1, 3, 3}, {3, -1, 3}, {-1, 4, 0}, {4, -1, 0}, {6, -1, 2}, {-1, 6, 2},
		{-2, 1, 1}, {1, -2, 1}, {-5, 2, 2}, {2, -7, 2}, {-7, 4, 0}, {-5, 7, 3}, {7, -5, 3},
		{math.MinInt, 0, 0}, {math.MinInt, math.MinInt, 0}, {math.MinInt, -1, 0}, {-1, math.MinInt, 0}, {math.MinInt, 5, 1}, {5, math.MinInt, 1},
		{math.MinInt, math.MaxInt, 3}, {math.MaxInt, math.MinInt, 3}, {math.MaxInt, -1, 3}, {-1, math.MaxInt, 3},
	} {
		if got := core.Proposer(conf, x.epoch, x.round); got != x.want {
			t.Errorf("epoch %d, round %d: %d, want %d", x.epoch, x.round, got, x.want)
		}
	}
}

// The clients do not bear on it, and it is reckoned without bounds also of a configuration that may not be. (Where there is no replica, or its number is no int, it is 0.)
func TestProposerOfAnyNumbers(t *testing.T) {
	numbers := []int{math.MinInt, math.MinInt + 1, -1 << 62, -5, -1, 0, 1, 2, 5, 21, 22, 1 << 32, 1 << 61, 1<<62 - 1, 1 << 62, math.MaxInt/3 - 1, math.MaxInt / 3, math.MaxInt/3 + 1, math.MaxInt/3*2 + 1, math.MaxInt/3*2 + 2, math.MaxInt - 1, math.MaxInt}
	for _, f := range append(numbers, 6148914691236517203, 6148914691236517204, 6148914691236517205, 6148914691236517206) {
		for _, epoch := range numbers {
			for _, round := range numbers {
				want := bigProposer(f, epoch, round)
				for _, clients := range []int{-1, 0, 1, 101} {
					if got := core.Proposer(api.Conf{F: f, Clients: clients}, epoch, round); got != want {
						t.Errorf("F %d, epoch %d, round %d: %d, want %d", f, epoch, round, got, want)
					}
				}
			}
		}
	}
}

// bigProposer is Proposer in numbers without bounds.
func bigProposer(f, epoch, round int) int {
	n := new(big.Int).Add(new(big.Int).Mul(big.NewInt(3), big.NewInt(int64(f))), big.NewInt(1))
	if n.Sign() <= 0 {
		return 0
	}
	sum := new(big.Int)
	for _, x := range []int{epoch, round} {
		if x > 0 {
			sum.Add(sum, big.NewInt(int64(x)))
		}
	}
	if sum.Mod(sum, n); !sum.IsInt64() {
		return 0
	}
	return int(sum.Int64())
}
