package sha_test

import (
	"bytes"
	"testing"

	"gavel/api"
	"gavel/sha"
)

// P2.1: Less, Set

// at is the hash with x as the byte i, and noughts else.
func at(i int, x byte) api.Hash {
	var h api.Hash
	h[i] = x
	return h
}

// wantLess holds that a stands ahead of b, and b not ahead of a.
func wantLess(t *testing.T, a, b api.Hash) {
	t.Helper()
	if !sha.Less(a, b) || sha.Less(b, a) {
		t.Errorf("%x, %x: Less %v, the other way %v", a, b, sha.Less(a, b), sha.Less(b, a))
	}
}

func TestLessOfEqualHashes(t *testing.T) {
	full := api.Hash(bytes.Repeat([]byte{0xFF}, 32))
	for _, h := range []api.Hash{{}, full, at(0, 1), at(31, 1), sha.Sum(nil)} {
		if sha.Less(h, h) {
			t.Errorf("%x is below itself", h)
		}
	}
}

func TestLessByOneByteAlone(t *testing.T) {
	for _, same := range []api.Hash{{}, api.Hash(bytes.Repeat([]byte{0x80}, 32)), sha.Sum([]byte("abc"))} {
		for i := range same {
			for _, c := range []struct{ low, high byte }{{0, 1}, {1, 2}, {0x7F, 0x80}, {0, 0x80}, {1, 0xFF}, {0xFE, 0xFF}, {0x10, 0x20}} {
				a, b := same, same
				a[i], b[i] = c.low, c.high
				wantLess(t, a, b)
			}
		}
	}
}

func TestLessByTheFirstByteThatDiffers(t *testing.T) {
	for i := range 31 {
		a, b := at(i, 1), at(i, 2)
		for k := i + 1; k < 32; k++ {
			a[k] = 0xFF
		}
		wantLess(t, a, b)
	}
	wantLess(t, at(31, 0xFF), at(0, 1))
	wantLess(t, at(1, 0xFF), at(0, 1))
	wantLess(t, at(8, 1), at(7, 1))
}

func TestLessOfAll(t *testing.T) {
	list := []api.Hash{{}, at(0, 1), at(0, 0xFF), at(31, 1), at(15, 0x80)}
	for i := range 40 {
		list = append(list, sha.Sum([]byte{byte(i)}))
	}
	for _, a := range list {
		for _, b := range list {
			if got, want := sha.Less(a, b), bytes.Compare(a[:], b[:]) < 0; got != want {
				t.Errorf("%x, %x: %v", a, b, got)
			}
		}
	}
}

// wantSet holds that of all these hashes s has just those of want.
func wantSet(t *testing.T, what string, s *sha.Set, all []api.Hash, want ...api.Hash) {
	t.Helper()
	if s.Len() != len(want) {
		t.Errorf("%s: Len %d, want %d", what, s.Len(), len(want))
	}
	there := map[api.Hash]bool{}
	for _, h := range want {
		there[h] = true
	}
	for _, h := range all {
		if s.Has(h) != there[h] {
			t.Errorf("%s: Has(%x): %v", what, h, s.Has(h))
		}
	}
}

func TestSetAddsEachHashOnce(t *testing.T) {
	zero, first, last := api.Hash{}, at(0, 1), at(31, 1)
	all := []api.Hash{zero, first, last, sha.Sum(nil)}
	s := sha.NewSet()
	wantSet(t, "new", s, all)
	for i, h := range all[:3] {
		if !s.Add(h) {
			t.Errorf("Add(%x): it is said to be there", h)
		}
		wantSet(t, "behind Add", s, all, all[:i+1]...)
		for range 2 {
			if s.Add(h) {
				t.Errorf("Add(%x) once more: it is said to be new", h)
			}
		}
		wantSet(t, "behind a second Add", s, all, all[:i+1]...)
	}
	if s.Add(zero) || s.Add(first) || s.Add(last) {
		t.Error("what was added is new again behind other ones")
	}
	wantSet(t, "at the end", s, all, all[:3]...)
}

func TestSetTellsHashesApartByEachByte(t *testing.T) {
	same := sha.Sum([]byte("abc"))
	s := sha.NewSet()
	s.Add(same)
	for i := range same {
		other := same
		other[i] ^= 1
		if s.Has(other) {
			t.Errorf("byte %d: Has", i)
		}
		if !s.Add(other) || !s.Has(other) || s.Len() != i+2 {
			t.Errorf("byte %d: not added, Len %d", i, s.Len())
		}
	}
	if !s.Has(same) {
		t.Error("the first one is gone")
	}
}

func TestSetAsksWithoutAdding(t *testing.T) {
	s := sha.NewSet()
	h := at(5, 5)
	if s.Has(h) || s.Has(h) || s.Len() != 0 || !s.Add(h) {
		t.Error("Has added it")
	}
}

func TestSetsAreApart(t *testing.T) {
	a, b := sha.NewSet(), sha.NewSet()
	x, y, z := at(0, 1), at(1, 1), at(2, 1)
	all := []api.Hash{x, y, z}
	if !a.Add(x) || !a.Add(y) || !b.Add(y) || !b.Add(z) {
		t.Error("what one set has is said to be in the other one")
	}
	wantSet(t, "one", a, all, x, y)
	wantSet(t, "the other one", b, all, y, z)
	wantSet(t, "a later one", sha.NewSet(), all)
}

func TestSetOfMany(t *testing.T) {
	s := sha.NewSet()
	for i := range 2000 {
		h := sha.Sum([]byte{byte(i), byte(i >> 8)})
		if !s.Add(h) || s.Add(h) || s.Len() != i+1 {
			t.Fatalf("hash %d: Len %d", i, s.Len())
		}
	}
	for i := range 2001 {
		if got := s.Has(sha.Sum([]byte{byte(i), byte(i >> 8)})); got != (i < 2000) {
			t.Errorf("hash %d: %v", i, got)
		}
	}
}
