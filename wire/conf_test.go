package wire_test

import (
	"testing"

	"gavel/api"
	"gavel/wire"
)

// P5.1: ValidConf, N, Quorum

func TestValidConfAtTheBounds(t *testing.T) {
	for _, f := range edges() {
		for _, clients := range edges() {
			want := f >= 1 && f <= 21 && clients >= 1 && clients <= 100
			if got := wire.ValidConf(api.Conf{F: f, Clients: clients}); got != want {
				t.Errorf("F %d, %d clients: %v", f, clients, got)
			}
		}
	}
}

func TestNAndQuorum(t *testing.T) {
	for _, c := range []struct{ f, n, quorum int }{
		{1, 4, 3}, {2, 7, 5}, {3, 10, 7}, {20, 61, 41}, {21, 64, 43},
		{0, 1, 1}, {22, 67, 45}, {1 << 40, 3<<40 + 1, 1<<41 + 1}, {-1, -2, -1}, {-21, -62, -41},
	} {
		for _, clients := range edges() {
			conf := api.Conf{F: c.f, Clients: clients}
			if n, quorum := wire.N(conf), wire.Quorum(conf); n != c.n || quorum != c.quorum {
				t.Errorf("of %v: N %d, Quorum %d, want %d, %d", conf, n, quorum, c.n, c.quorum)
			}
		}
	}
}

func TestTwoQuorumsShareACorrectReplica(t *testing.T) {
	for f := 1; f <= api.MaxF; f++ {
		c := api.Conf{F: f, Clients: 1}
		if wire.N(c)-f < wire.Quorum(c) || 2*wire.Quorum(c)-wire.N(c) <= f {
			t.Errorf("F %d: %d of %d", f, wire.Quorum(c), wire.N(c))
		}
	}
}
