package sha_test

import (
	"bytes"
	"crypto/sha256"
	"encoding/binary"
	"encoding/hex"
	"slices"
	"strings"
	"testing"

	"gavel/api"
	"gavel/sha"
)

// P2.1: Sum, Rows

// text is n bytes that differ with their place, and with salt.
func text(n, salt int) []byte {
	b := make([]byte, n)
	for i := range b {
		b[i] = byte(i*7 + i>>8*31 + salt*13 + 1)
	}
	return b
}

// rows hashes what the chapter says a list of rows is as bytes, without the project's own writer.
func rows(l ...[]byte) api.Hash {
	b := binary.AppendUvarint(nil, uint64(len(l)))
	for _, row := range l {
		b = append(binary.AppendUvarint(b, uint64(len(row))), row...)
	}
	return sha256.Sum256(b)
}

func TestSumOfKnownTexts(t *testing.T) {
	for _, c := range []struct{ text, want string }{
		{"", "e3b0c44298fc1c149afbf4c8996fb92427ae41e4649b934ca495991b7852b855"},
		{"abc", "ba7816bf8f01cfea414140de5dae2223b00361a396177a9cb410ff61f20015ad"},
		{"abcdbcdecdefdefgefghfghighijhijkijkljklmklmnlmnomnopnopq", "248d6a61d20638b8e5c026930c3e6039a33ce45964ff2167f6ecedd419db06c1"},
		{"abcdefghbcdefghicdefghijdefghijkefghijklfghijklmghijklmnhijklmnoijklmnopjklmnopqklmnopqrlmnopqrsmnopqrstnopqrstu", "cf5b16a778af8380036ce59e7b0492370b249b11e8f07a51afac45037afee9d1"},
		{strings.Repeat("a", 1000000), "cdc76e5c9914fb9281a1c7e284d73e67f1809a48a497200e046d39ccc7112cd0"},
	} {
		h := sha.Sum([]byte(c.text))
		if got := hex.EncodeToString(h[:]); got != c.want {
			t.Errorf("Sum of %d bytes: %s, want %s", len(c.text), got, c.want)
		}
	}
}

func TestSumOfNothing(t *testing.T) {
	for _, b := range [][]byte{nil, {}, text(9, 0)[:0], text(9, 0)[9:]} {
		if got := sha.Sum(b); got != sha256.Sum256(nil) || !bytes.HasPrefix(got[:], []byte{0xE3, 0xB0, 0xC4, 0x42}) {
			t.Errorf("%x", got)
		}
	}
}

// Every length about the borders of five blocks, among them those where the length still fits into the last block (55, 119, ..) and where it does not any more (56, 120, ..).
func TestSumOfAllLengths(t *testing.T) {
	for n := range 5*64 + 2 {
		for _, b := range [][]byte{text(n, n), make([]byte, n), bytes.Repeat([]byte{0xFF}, n), bytes.Repeat([]byte{0x80}, n)} {
			if got, want := sha.Sum(b), sha256.Sum256(b); got != want {
				t.Errorf("%d bytes (%x ..): %x, want %x", n, b[:min(n, 4)], got, want)
			}
		}
	}
}

// The length is in the last block, in binary digits: each of these takes one more byte of it.
func TestSumOfLongTexts(t *testing.T) {
	for _, border := range []int{1 << 5, 1 << 13, 1 << 21} {
		for _, n := range []int{border - 1, border, border + 1, border + 55, border + 56} {
			b := text(n, 3)
			if got, want := sha.Sum(b), sha256.Sum256(b); got != want {
				t.Errorf("%d bytes: %x, want %x", n, got, want)
			}
		}
	}
}

func TestSumOfMoreThanThirtyTwoDigitsOfLength(t *testing.T) {
	if testing.Short() {
		t.Skip("takes seconds")
	}
	b := make([]byte, 1<<29)
	b[0], b[len(b)-1] = 1, 2
	if got, want := sha.Sum(b), sha256.Sum256(b); got != want {
		t.Errorf("%x, want %x", got, want)
	}
}

func TestSumHangsOnEachByte(t *testing.T) {
	for _, n := range []int{1, 55, 56, 64, 65, 130} {
		b := text(n, 1)
		seen := map[api.Hash]bool{sha.Sum(b): true}
		for i := range b {
			b[i] ^= 1
			got := sha.Sum(b)
			if want := sha256.Sum256(b); got != want || seen[got] {
				t.Errorf("%d bytes, byte %d changed: %x, want %x", n, i, got, want)
			}
			seen[got] = true
			b[i] ^= 1
		}
	}
}

func TestSumTouchesNothing(t *testing.T) {
	for _, n := range []int{0, 1, 3, 55, 56, 63, 64, 65, 128, 200} {
		memory := text(400, 2)
		before := bytes.Clone(memory)
		first := sha.Sum(memory[:n])
		if !bytes.Equal(memory, before) {
			t.Errorf("Sum of %d bytes changed what it was handed", n)
		}
		for i := n; i < len(memory); i++ {
			memory[i] ^= 0xFF
		}
		if again := sha.Sum(memory[:n]); again != first || first != sha256.Sum256(before[:n]) {
			t.Errorf("Sum of %d bytes hangs on what lies behind them, or on calls ahead: %x, %x", n, first, again)
		}
	}
}

func TestRowsOfNone(t *testing.T) {
	want := sha256.Sum256([]byte{0})
	for _, got := range []api.Hash{sha.Rows(), sha.Rows([][]byte{}...), sha.Rows([][]byte(nil)...)} {
		if got != want {
			t.Errorf("%x, want %x", got, want)
		}
	}
}

func TestRowsOfEmptyRows(t *testing.T) {
	one := sha256.Sum256([]byte{1, 0})
	if got := sha.Rows(nil); got != one {
		t.Errorf("of nil: %x", got)
	}
	if got := sha.Rows([]byte{}); got != one {
		t.Errorf("of an empty row: %x", got)
	}
	if got := sha.Rows([]byte{}, nil, text(5, 0)[:0]); got != sha256.Sum256([]byte{3, 0, 0, 0}) {
		t.Errorf("of three: %x", got)
	}
}

func TestRowsIsTheSumOfTheirBytes(t *testing.T) {
	if got := sha.Rows([]byte("ab"), []byte("c")); got != sha256.Sum256([]byte("\x02\x02ab\x01c")) {
		t.Errorf("ab, c: %x", got)
	}
	many := make([][]byte, 300)
	for i := range many {
		many[i] = text(i, i)
	}
	for _, l := range [][][]byte{
		{text(1, 0)},
		{text(127, 0)},
		{text(128, 0)},
		{text(1<<14, 0)},
		{text(3, 0), nil, text(200, 1), text(64, 2)},
		{nil, text(3, 0)},
		{text(3, 0), nil},
		slices.Repeat([][]byte{nil}, 127),
		slices.Repeat([][]byte{nil}, 128),
		many,
	} {
		if got, want := sha.Rows(l...), rows(l...); got != want {
			t.Errorf("%d rows: %x, want %x", len(l), got, want)
		}
	}
}

func TestRowsOfUnlikeLists(t *testing.T) {
	seen := map[api.Hash]string{}
	for _, list := range []string{"", "-", "--", "a", "a-", "-a", "ab", "a-b", "b-a", "ab-", "a-b-", "abc", "a-bc", "ab-c", "a-b-c", "\x01a", "\x00"} {
		var l [][]byte
		if list != "" {
			l = bytes.Split([]byte(list), []byte("-"))
		}
		h := sha.Rows(l...)
		if h != rows(l...) {
			t.Errorf("%q: %x", list, h)
		}
		if other, ok := seen[h]; ok {
			t.Errorf("%q and %q have one hash", list, other)
		}
		seen[h] = list
	}
}

func TestRowsTouchesNothing(t *testing.T) {
	memory := text(20, 0)
	before := bytes.Clone(memory)
	whole := [][]byte{memory[:3], memory[3:3], memory[5:9], memory[9:12]}
	l := whole[:3]
	first := sha.Rows(l...)
	if !bytes.Equal(memory, before) {
		t.Error("a row was changed")
	}
	if len(whole[0]) != 3 || len(whole[1]) != 0 || len(whole[2]) != 4 || len(whole[3]) != 3 || &whole[2][0] != &memory[5] {
		t.Error("the list was changed")
	}
	memory[3], memory[4], memory[10] = 0, 0, 0
	whole[3] = nil
	if again := sha.Rows(l...); again != first || first != rows(l...) {
		t.Errorf("hangs on what lies behind the rows, or on calls ahead: %x, %x", first, again)
	}
}
