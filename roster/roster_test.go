package roster_test

import (
	"math"
	"math/big"
	"testing"

	"gavel/api"
	"gavel/book"
	"gavel/roster"
	"gavel/wire"
)

// R6, R8: a number below what there is, or past it, is none.

// has tells the same in numbers without bounds.
func has(f, replica int) bool {
	n := new(big.Int).Mul(big.NewInt(3), big.NewInt(int64(f)))
	n.Add(n, big.NewInt(1))
	return replica >= 0 && big.NewInt(int64(replica)).Cmp(n) < 0
}

func TestHasOfConfigurationsThatMayBe(t *testing.T) {
	for f := 1; f <= api.MaxF; f++ {
		c := api.Conf{F: f, Clients: 1}
		for replica := -5; replica < 3*f+6; replica++ {
			if got := roster.Has(c, replica); got != (replica >= 0 && replica < wire.N(c)) {
				t.Errorf("F %d, replica %d: %v", f, replica, got)
			}
		}
	}
}

func TestHasOfAnyNumbers(t *testing.T) {
	var numbers []int
	for _, middle := range []int{
		math.MinInt + 3, math.MinInt / 2, math.MinInt / 3, -1 << 32, -api.MaxF, 0, 10, 3 * api.MaxF, 1 << 32, 3 << 32,
		math.MaxInt / 9, math.MaxInt / 4, math.MaxInt / 3, math.MaxInt / 2, math.MaxInt/3*2 + 1, math.MaxInt - 3,
	} {
		for i := -3; i <= 3; i++ {
			numbers = append(numbers, middle+i)
		}
	}
	for _, f := range numbers {
		for _, replica := range numbers {
			for _, clients := range []int{math.MinInt, 0, 1, 101} {
				if got := roster.Has(api.Conf{F: f, Clients: clients}, replica); got != has(f, replica) {
					t.Errorf("F %d, replica %d: %v", f, replica, got)
				}
			}
		}
	}
}

// Signed asks for the replica, for the signer, and for just that text.
func TestSigned(t *testing.T) {
	c, b, text := api.Conf{F: 1, Clients: 1}, book.New(), []byte("text")
	for by := -2; by < 7; by++ {
		s := b.Sign(by, text)
		for replica := -2; replica < 7; replica++ {
			want := replica == by && replica >= 0 && replica < 4
			if got := roster.Signed(c, b, replica, s, text); got != want {
				t.Errorf("replica %d, signed by %d: %v", replica, by, got)
			}
			for _, other := range []string{"", "tex", "texts", "Text"} {
				if roster.Signed(c, b, replica, s, []byte(other)) {
					t.Errorf("replica %d, signed by %d: right of %q", replica, by, other)
				}
			}
			if roster.Signed(c, b, replica, api.Sig{By: by, Mark: s.Mark + 100}, text) {
				t.Errorf("replica %d, signed by %d: right with another mark", replica, by)
			}
		}
	}
	if b.Len() != 9 || string(text) != "text" {
		t.Error("something is signed or changed")
	}
}
