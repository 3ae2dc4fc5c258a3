package code_test

import (
	"bytes"
	"math"
	"testing"

	"gavel/api"
	"gavel/code"
)

// P1.2

// wantFailed asks a reader that has failed for all that there is, twice, for a call may not mend it.
func wantFailed(t *testing.T, what string, r *code.Reader) {
	t.Helper()
	for range 2 {
		if r.OK() || r.Left() != 0 {
			t.Errorf("%s: OK %v, Left %d", what, r.OK(), r.Left())
		}
		if n := r.Num(); n != 0 {
			t.Errorf("%s: then Num %d", what, n)
		}
		if n := r.Int(math.MaxInt); n != 0 {
			t.Errorf("%s: then Int %d", what, n)
		}
		if n := r.Int(-1); n != 0 {
			t.Errorf("%s: then Int(-1) %d", what, n)
		}
		if b := r.Row(math.MaxInt); len(b) != 0 {
			t.Errorf("%s: then Row %x", what, b)
		}
		if b := r.Row(0); len(b) != 0 {
			t.Errorf("%s: then Row(0) %x", what, b)
		}
		if h := r.Hash(); h != (api.Hash{}) {
			t.Errorf("%s: then Hash %x", what, h)
		}
	}
}

// behind is b with bytes behind it that would do for any call.
func behind(b ...byte) []byte {
	return append(b[:len(b):len(b)], bytes.Repeat([]byte{1}, 64)...)
}

func TestNumTakesWhatStandsNext(t *testing.T) {
	w := code.NewWriter()
	list := []uint64{0, 1, 127, 128, 300, 1<<63 - 1, 1 << 63, math.MaxUint64}
	for size := 1; size <= 9; size++ {
		border := uint64(1) << (7 * size)
		list = append(list, border-1, border, border+1)
	}
	for _, n := range list {
		w.Num(n)
	}
	r := code.NewReader(w.Bytes())
	left := len(w.Bytes())
	for _, n := range list {
		left -= len(code.NewWriter().Num(n).Bytes())
		if got := r.Num(); got != n || !r.OK() || r.Left() != left {
			t.Errorf("Num: %d, want %d; OK %v, Left %d, want %d", got, n, r.OK(), r.Left(), left)
		}
	}
	if got := r.Num(); got != 0 {
		t.Errorf("past the end: %d", got)
	}
	wantFailed(t, "past the end", r)
}

func TestNumRefuses(t *testing.T) {
	nine := bytes.Repeat([]byte{0xFF}, 9)
	empty := bytes.Repeat([]byte{0x80}, 9)
	for _, c := range []struct {
		what string
		b    []byte
	}{
		{"nothing", nil},
		{"an empty row", []byte{}},
		{"breaks off behind one byte", []byte{0x80}},
		{"breaks off behind two bytes", []byte{0xFF, 0xFF}},
		{"breaks off behind nine bytes", nine},
		{"breaks off behind ten bytes", append(nine[:9:9], 0x81)},
		{"0 in two bytes", behind(0x80, 0x00)},
		{"0 in three bytes", behind(0x80, 0x80, 0x00)},
		{"127 in two bytes", behind(0xFF, 0x00)},
		{"300 in three bytes", behind(0xAC, 0x82, 0x00)},
		{"0 in ten bytes", behind(append(empty[:9:9], 0x00)...)},
		{"63 digits in ten bytes", behind(append(nine[:9:9], 0x00)...)},
		{"2^64", behind(append(empty[:9:9], 0x02)...)},
		{"65 digits", behind(append(nine[:9:9], 0x03)...)},
		{"70 digits", behind(append(nine[:9:9], 0x7F)...)},
		{"the greatest in eleven bytes", behind(append(nine[:9:9], 0x81, 0x00)...)},
		{"71 digits", behind(append(nine[:9:9], 0x81, 0x01)...)},
		{"2^70", behind(append(empty[:9:9], 0x80, 0x01)...)},
		{"0 in eleven bytes", behind(append(empty[:9:9], 0x80, 0x00)...)},
		{"digits that go round", behind(append(bytes.Repeat([]byte{0x80}, 64), 0x01)...)},
		{"no end", bytes.Repeat([]byte{0x80}, 1000)},
	} {
		r := code.NewReader(c.b)
		if got := r.Num(); got != 0 {
			t.Errorf("%s: %d", c.what, got)
		}
		wantFailed(t, c.what, r)
		r = code.NewReader(c.b)
		if got := r.Int(math.MaxInt); got != 0 {
			t.Errorf("Int of %s: %d", c.what, got)
		}
		wantFailed(t, "Int of "+c.what, r)
		r = code.NewReader(c.b)
		if got := r.Row(math.MaxInt); len(got) != 0 {
			t.Errorf("Row of %s: %x", c.what, got)
		}
		wantFailed(t, "Row of "+c.what, r)
	}
}

// checkNum holds what a reader takes from b against what a writer writes for it.
func checkNum(t *testing.T, b []byte) {
	t.Helper()
	r := code.NewReader(b)
	n := r.Num()
	if r.OK() {
		if size := len(b) - r.Left(); !bytes.Equal(code.NewWriter().Num(n).Bytes(), b[:size]) {
			t.Errorf("%x: %d in %d bytes", b, n, size)
		}
		return
	}
	size := 0
	for size < len(b) && b[size] >= 0x80 {
		size++
	}
	ends := size < len(b)
	short := ends && (size == 0 || b[size] != 0)
	fits := size < 9 || size == 9 && ends && b[9] <= 1
	if n != 0 || short && fits {
		t.Errorf("%x: failed, with %d", b, n)
	}
}

func TestNumOfAllEnds(t *testing.T) {
	for _, size := range []int{0, 1, 7, 8, 9} {
		for _, fill := range []byte{0x80, 0xFF} {
			head := bytes.Repeat([]byte{fill}, size)
			for x := range 1 << 16 {
				checkNum(t, append(head[:size:size], byte(x>>8), byte(x)))
			}
		}
	}
}

func TestIntIsAtMostMost(t *testing.T) {
	for _, c := range []struct {
		n    uint64
		most int
		ok   bool
	}{
		{0, 0, true},
		{1, 0, false},
		{1, 1, true},
		{299, 300, true},
		{300, 300, true},
		{301, 300, false},
		{1 << 40, 1 << 40, true},
		{1<<40 + 1, 1 << 40, false},
		{1 << 32, 1<<32 - 1, false},
		{math.MaxInt, math.MaxInt, true},
		{math.MaxInt, math.MaxInt - 1, false},
		{math.MaxInt + 1, math.MaxInt, false},
		{math.MaxUint64, math.MaxInt, false},
		{0, -1, false},
		{1, -1, false},
		{math.MaxUint64, -1, false},
		{0, math.MinInt, false},
		{1 << 63, math.MinInt, false},
	} {
		r := code.NewReader(behind(code.NewWriter().Num(c.n).Bytes()...))
		got := r.Int(c.most)
		if !c.ok {
			if got != 0 {
				t.Errorf("Int(%d) of %d: %d", c.most, c.n, got)
			}
			wantFailed(t, "Int above most", r)
			continue
		}
		if got != int(c.n) || !r.OK() || r.Left() != 64 {
			t.Errorf("Int(%d) of %d: %d, OK %v, Left %d", c.most, c.n, got, r.OK(), r.Left())
		}
	}
}

func TestRowTakesItsLengthAndIt(t *testing.T) {
	for _, size := range []int{0, 1, 3, 127, 128, 1 << 14} {
		row := bytes.Repeat([]byte{0xEE}, size)
		for _, most := range []int{size, size + 1, math.MaxInt} {
			r := code.NewReader(code.NewWriter().Row(row).Num(5).Bytes())
			if got := r.Row(most); !bytes.Equal(got, row) || !r.OK() || r.Left() != 1 {
				t.Errorf("Row(%d) of %d bytes: %d bytes, OK %v, Left %d", most, size, len(got), r.OK(), r.Left())
			}
			if got := r.Num(); got != 5 || !r.OK() || r.Left() != 0 {
				t.Errorf("behind a row of %d bytes: %d", size, got)
			}
		}
	}
}

func TestRowRefuses(t *testing.T) {
	for _, c := range []struct {
		what string
		b    []byte
		most int
	}{
		{"longer than most", behind(3), 2},
		{"any where none may be", behind(1), 0},
		{"an empty one, most below 0", behind(0), -1},
		{"one, most below 0", behind(1), math.MinInt},
		{"not there", []byte{1}, 9},
		{"not all there", []byte{3, 7, 7}, 9},
		{"a length that a slice can't have", behind(code.NewWriter().Int(math.MaxInt).Bytes()...), math.MaxInt},
		{"a length that an int can't be", behind(code.NewWriter().Num(math.MaxUint64).Bytes()...), math.MaxInt},
		{"a length in more bytes than it takes", behind(0x81, 0x00), 9},
	} {
		r := code.NewReader(c.b)
		if got := r.Row(c.most); len(got) != 0 {
			t.Errorf("%s: %x", c.what, got)
		}
		wantFailed(t, c.what, r)
	}
}

func TestHashTakesItsBytes(t *testing.T) {
	h, g := api.Hash{0: 1, 31: 2}, api.Hash{1: 3, 30: 4}
	r := code.NewReader(code.NewWriter().Hash(h).Hash(api.Hash{}).Hash(g).Num(6).Bytes())
	if r.Hash() != h || r.Hash() != (api.Hash{}) || r.Hash() != g || !r.OK() || r.Left() != 1 {
		t.Errorf("OK %v, Left %d", r.OK(), r.Left())
	}
	if r.Num() != 6 || !r.OK() || r.Left() != 0 {
		t.Error("behind the hashes")
	}
	for size := range 32 {
		r := code.NewReader(bytes.Repeat([]byte{1}, size))
		if got := r.Hash(); got != (api.Hash{}) {
			t.Errorf("Hash of %d bytes: %x", size, got)
		}
		wantFailed(t, "a hash that is not all there", r)
	}
}

func TestFailureStays(t *testing.T) {
	fine := behind(0)
	for what, fail := range map[string]func(*code.Reader){
		"Int": func(r *code.Reader) { r.Int(-1) },
		"Row": func(r *code.Reader) { r.Row(-1) },
	} {
		r := code.NewReader(fine)
		fail(r)
		wantFailed(t, what, r)
	}
	r := code.NewReader(fine)
	if r.Num() != 0 || r.Int(1) != 1 || !r.OK() || r.Left() != 63 {
		t.Error("what one reader took or failed, another one has not")
	}
}

func TestNothingIsLeftAndNothingFailed(t *testing.T) {
	for _, b := range [][]byte{nil, {}} {
		if r := code.NewReader(b); !r.OK() || r.Left() != 0 {
			t.Errorf("OK %v, Left %d", r.OK(), r.Left())
		}
	}
	if r := code.NewReader(make([]byte, 7)); !r.OK() || r.Left() != 7 || r.Left() != 7 {
		t.Errorf("OK %v, Left %d", r.OK(), r.Left())
	}
}

func TestReaderSharesNoMemory(t *testing.T) {
	b := []byte("\x03abc\x03def")
	r := code.NewReader(b)
	first := r.Row(3)
	b[5] = 'X'
	first[0] = 'Y'
	if grown := append(first, "zzzz"...); string(grown) != "Ybczzzz" {
		t.Errorf("%q", grown)
	}
	if string(b) != "\x03abc\x03Xef" {
		t.Errorf("what was handed in was changed: %q", b)
	}
	if second := r.Row(3); string(second) != "def" || !r.OK() {
		t.Errorf("what was handed in, or out, was kept: %q", second)
	}
}

func TestReaderEndsWhereTheRowEnds(t *testing.T) {
	memory := code.NewWriter().Num(300).Row([]byte("abc")).Hash(api.Hash{}).Bytes()
	r := code.NewReader(memory[:1])
	r.Num()
	wantFailed(t, "a number behind the length", r)
	r = code.NewReader(memory[2:5])
	r.Row(3)
	wantFailed(t, "a row behind the length", r)
	r = code.NewReader(memory[6:37])
	r.Hash()
	wantFailed(t, "a hash behind the length", r)
}

func TestReadsBackWhatWasWritten(t *testing.T) {
	state := uint64(1)
	next := func() uint64 {
		state = state*6364136223846793005 + 1442695040888963407
		return state >> 33
	}
	for range 300 {
		w := code.NewWriter()
		var checks []func(r *code.Reader) bool
		for range next() % 9 {
			n := next() << 33 >> (next() % 64)
			row := bytes.Repeat([]byte{byte(n)}, int(next()%300))
			h := api.Hash{0: byte(n), 31: byte(next())}
			w.Num(n).Int(int(n >> 1)).Row(row).Hash(h)
			checks = append(checks, func(r *code.Reader) bool {
				return r.Num() == n && r.Int(int(n>>1)) == int(n>>1) && bytes.Equal(r.Row(len(row)), row) && r.Hash() == h
			})
		}
		r := code.NewReader(w.Bytes())
		for i, check := range checks {
			if !check(r) || !r.OK() {
				t.Fatalf("part %d of %x", i, w.Bytes())
			}
		}
		if r.Left() != 0 {
			t.Fatalf("%d bytes left of %x", r.Left(), w.Bytes())
		}
	}
}
