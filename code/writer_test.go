package code_test

import (
	"bytes"
	"math"
	"testing"

	"gavel/api"
	"gavel/code"
)

// P1.1

func TestNumWritesSevenDigitsAByte(t *testing.T) {
	for _, c := range []struct {
		n    uint64
		want []byte
	}{
		{0, []byte{0}},
		{1, []byte{1}},
		{127, []byte{0x7F}},
		{128, []byte{0x80, 0x01}},
		{129, []byte{0x81, 0x01}},
		{255, []byte{0xFF, 0x01}},
		{256, []byte{0x80, 0x02}},
		{300, []byte{0xAC, 0x02}},
		{1<<14 - 1, []byte{0xFF, 0x7F}},
		{1 << 14, []byte{0x80, 0x80, 0x01}},
		{1<<63 - 1, []byte{0xFF, 0xFF, 0xFF, 0xFF, 0xFF, 0xFF, 0xFF, 0xFF, 0x7F}},
		{1 << 63, []byte{0x80, 0x80, 0x80, 0x80, 0x80, 0x80, 0x80, 0x80, 0x80, 0x01}},
		{1<<64 - 1, []byte{0xFF, 0xFF, 0xFF, 0xFF, 0xFF, 0xFF, 0xFF, 0xFF, 0xFF, 0x01}},
	} {
		if got := code.NewWriter().Num(c.n).Bytes(); !bytes.Equal(got, c.want) {
			t.Errorf("Num(%d): %x, want %x", c.n, got, c.want)
		}
	}
}

func TestNumAtEveryBorder(t *testing.T) {
	for size := 1; size <= 9; size++ {
		border := uint64(1) << (7 * size)
		below := code.NewWriter().Num(border - 1).Bytes()
		if want := append(bytes.Repeat([]byte{0xFF}, size-1), 0x7F); !bytes.Equal(below, want) {
			t.Errorf("Num(%d): %x, want %x", border-1, below, want)
		}
		at := code.NewWriter().Num(border).Bytes()
		if want := append(bytes.Repeat([]byte{0x80}, size), 0x01); !bytes.Equal(at, want) {
			t.Errorf("Num(%d): %x, want %x", border, at, want)
		}
	}
}

func TestIntIsNumOrNought(t *testing.T) {
	for _, n := range []int{0, 1, 127, 128, 300, 1 << 40, math.MaxInt} {
		got, want := code.NewWriter().Int(n).Bytes(), code.NewWriter().Num(uint64(n)).Bytes()
		if !bytes.Equal(got, want) {
			t.Errorf("Int(%d): %x, want %x", n, got, want)
		}
	}
	for _, n := range []int{-1, -128, -1 << 40, math.MinInt} {
		if got := code.NewWriter().Int(n).Bytes(); !bytes.Equal(got, []byte{0}) {
			t.Errorf("Int(%d): %x", n, got)
		}
	}
}

func TestRowIsItsLengthAndIt(t *testing.T) {
	for _, c := range []struct{ row, length []byte }{
		{nil, []byte{0}},
		{[]byte{}, []byte{0}},
		{[]byte{0}, []byte{1}},
		{[]byte("abc"), []byte{3}},
		{bytes.Repeat([]byte{0xEE}, 127), []byte{0x7F}},
		{bytes.Repeat([]byte{0xEE}, 128), []byte{0x80, 0x01}},
		{bytes.Repeat([]byte{0xEE}, 1<<14), []byte{0x80, 0x80, 0x01}},
	} {
		got, want := code.NewWriter().Row(c.row).Bytes(), append(c.length, c.row...)
		if !bytes.Equal(got, want) {
			t.Errorf("Row of %d bytes: %d bytes, want %d", len(c.row), len(got), len(want))
		}
	}
}

func TestHashIsItsBytes(t *testing.T) {
	var h api.Hash
	for i := range h {
		h[i] = byte(200 + i)
	}
	if got := code.NewWriter().Hash(h).Bytes(); !bytes.Equal(got, h[:]) {
		t.Errorf("%x", got)
	}
	if got := code.NewWriter().Hash(api.Hash{}).Bytes(); !bytes.Equal(got, make([]byte, 32)) {
		t.Errorf("the zero hash: %x", got)
	}
}

func TestEachReturnsTheWriter(t *testing.T) {
	w := code.NewWriter()
	if w.Num(1) != w || w.Int(2) != w || w.Int(-2) != w || w.Row(nil) != w || w.Row([]byte{3}) != w || w.Hash(api.Hash{}) != w {
		t.Error("another writer")
	}
}

func TestBytesIsAllInOrder(t *testing.T) {
	w := code.NewWriter()
	if len(w.Bytes()) != 0 {
		t.Error("a new writer has bytes")
	}
	w.Num(300)
	if got := w.Bytes(); !bytes.Equal(got, []byte{0xAC, 0x02}) {
		t.Errorf("%x", got)
	}
	h := api.Hash{0: 7, 31: 9}
	w.Int(-1).Hash(h).Row([]byte("xy"))
	want := append(append([]byte{0xAC, 0x02, 0}, h[:]...), 2, 'x', 'y')
	for range 2 {
		if got := w.Bytes(); !bytes.Equal(got, want) {
			t.Errorf("%x, want %x", got, want)
		}
	}
	if len(code.NewWriter().Bytes()) != 0 {
		t.Error("writers share what they wrote")
	}
}

func TestWriterSharesNoMemory(t *testing.T) {
	memory := []byte("rowbehind")
	row := memory[:3]
	w := code.NewWriter().Row(row)
	first := w.Bytes()
	row[0] = 'X'
	if got := w.Bytes(); string(got) != "\x03row" {
		t.Errorf("the row was kept: %q", got)
	}
	if string(memory) != "Xowbehind" {
		t.Errorf("the row was changed: %q", memory)
	}
	first[1] = 'Y'
	if got := w.Bytes(); string(got) != "\x03row" {
		t.Errorf("an answer is the writer's memory: %q", got)
	}
	short := w.Bytes()
	w.Num(5)
	if grown := append(short, 6); string(grown) != "\x03row\x06" || string(w.Bytes()) != "\x03row\x05" {
		t.Errorf("an answer is followed by the writer's memory: %q, %q", grown, w.Bytes())
	}
}
