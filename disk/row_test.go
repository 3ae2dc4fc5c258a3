package disk_test

import (
	"math"
	"strings"
	"testing"

	"gavel/api"
	"gavel/disk"
)

// P7.1

// state is what a disk tells.
type state struct {
	row    string
	synced int
	dead   bool
}

// want holds what d tells, twice, for asking may change nothing.
func want(t *testing.T, what string, d *disk.Disk, s state) {
	t.Helper()
	for range 2 {
		row, length, synced, dead := d.Read(), d.Len(), d.Synced(), d.Dead()
		if string(row) != s.row || length != len(s.row) || synced != s.synced || dead != s.dead {
			t.Fatalf("%s: Read %q, Len %d, Synced %d, Dead %v, want %q, %d, %d, %v", what, row, length, synced, dead, s.row, len(s.row), s.synced, s.dead)
		}
	}
}

// answers holds what a call answered.
func answers(t *testing.T, what string, got, want api.Errno) {
	t.Helper()
	if got != want {
		t.Fatalf("%s: %d, want %d", what, got, want)
	}
}

// having makes a disk of that row, of which the first bytes are synced.
func having(t *testing.T, row string, synced int) *disk.Disk {
	t.Helper()
	d := disk.New()
	answers(t, "Append", d.Append([]byte(row[:synced])), api.OK)
	answers(t, "Sync", d.Sync(), api.OK)
	answers(t, "Append", d.Append([]byte(row[synced:])), api.OK)
	want(t, "at first", d, state{row, synced, false})
	return d
}

// killed makes a disk of that row, of which the first bytes are synced, dead.
func killed(t *testing.T, row string, synced int) *disk.Disk {
	t.Helper()
	d := having(t, row, synced)
	d.Fuse(0)
	answers(t, "Sync with a Fuse of none", d.Sync(), api.ErrCrash)
	want(t, "killed", d, state{row, synced, true})
	return d
}

// numbers are n's neighbours and the ends of all that there are.
func numbers(n int) []int {
	return []int{math.MinInt, math.MinInt + 1, -1 << 32, -n - 1, -n, -2, -1, 0, 1, 2, n - 2, n - 1, n, n + 1, n + 2, 2*n + 1, 1<<32 + 1, math.MaxInt - n, math.MaxInt - 1, math.MaxInt}
}

func TestNewDiskIsEmpty(t *testing.T) {
	d := disk.New()
	want(t, "new", d, state{"", 0, false})
	answers(t, "Cut(1)", d.Cut(1), api.ErrArg)
	answers(t, "Cut(-1)", d.Cut(-1), api.ErrArg)
	answers(t, "Cut(0)", d.Cut(0), api.OK)
	answers(t, "Sync", d.Sync(), api.OK)
	want(t, "behind a Cut and a Sync", d, state{"", 0, false})
	d.Crash(5)
	want(t, "behind a Crash", d, state{"", 0, false})
}

func TestAppendPutsBehindWhatThereIs(t *testing.T) {
	d := disk.New()
	row := ""
	for _, s := range []string{"a", "bc", "", "def", "a", "\x00", "\x00\x00", "\xFF\x80\n", strings.Repeat("long", 2000), "z"} {
		answers(t, "Append", d.Append([]byte(s)), api.OK)
		row += s
		want(t, "behind "+s, d, state{row, 0, false})
	}
}

func TestAppendOfEachByte(t *testing.T) {
	d := disk.New()
	row := ""
	for i := range 256 {
		b := []byte{byte(i)}
		answers(t, "Append", d.Append(b), api.OK)
		row += string(b)
	}
	want(t, "each byte", d, state{row, 0, false})
}

func TestAppendOfNothing(t *testing.T) {
	far := []byte("abc")
	for _, b := range [][]byte{nil, {}, far[:0], far[3:]} {
		d := disk.New()
		answers(t, "Append of nothing", d.Append(b), api.OK)
		want(t, "of nothing alone", d, state{"", 0, false})
		d = having(t, "xyz", 2)
		answers(t, "Append of nothing", d.Append(b), api.OK)
		want(t, "of nothing behind bytes", d, state{"xyz", 2, false})
	}
}

func TestSyncSyncsAllThatThereIs(t *testing.T) {
	d := disk.New()
	row := ""
	for _, s := range []string{"abc", "d", "", "efghij"} {
		before := len(row)
		row += s
		answers(t, "Append", d.Append([]byte(s)), api.OK)
		want(t, "ahead of Sync", d, state{row, before, false})
		for range 2 {
			answers(t, "Sync", d.Sync(), api.OK)
			want(t, "behind Sync", d, state{row, len(row), false})
		}
	}
}

func TestCutLeavesTheFirstBytes(t *testing.T) {
	const row = "abcdef"
	for synced := range len(row) + 1 {
		for n := range len(row) + 1 {
			d := having(t, row, synced)
			answers(t, "Cut", d.Cut(n), api.OK)
			want(t, "behind Cut", d, state{row[:n], min(n, synced), false})
			answers(t, "the same Cut", d.Cut(n), api.OK)
			want(t, "behind the same Cut", d, state{row[:n], min(n, synced), false})
		}
	}
}

func TestCutOfANumberThatMayNotBe(t *testing.T) {
	for _, row := range []string{"", "a", "abcdef"} {
		for synced := range len(row) + 1 {
			d := having(t, row, synced)
			for _, n := range numbers(len(row)) {
				if n >= 0 && n <= len(row) {
					continue
				}
				answers(t, "Cut", d.Cut(n), api.ErrArg)
				want(t, "behind a Cut that may not be", d, state{row, synced, false})
			}
		}
	}
}

func TestCutIsForGood(t *testing.T) {
	d := having(t, "abcdef", 6)
	answers(t, "Cut", d.Cut(2), api.OK)
	d.Crash(math.MaxInt)
	want(t, "behind a Crash", d, state{"ab", 2, false})
	answers(t, "Cut past what is left", d.Cut(3), api.ErrArg)
	d = having(t, "abcdef", 1)
	answers(t, "Cut", d.Cut(4), api.OK)
	d.Crash(2)
	want(t, "behind a Crash that keeps two", d, state{"abc", 3, false})
	d = having(t, "abcdef", 3)
	answers(t, "Cut", d.Cut(0), api.OK)
	answers(t, "Sync", d.Sync(), api.OK)
	want(t, "behind a Sync", d, state{"", 0, false})
}

func TestWhatIsAppendedBehindACutIsNotSynced(t *testing.T) {
	d := having(t, "abcdef", 4)
	answers(t, "Cut", d.Cut(2), api.OK)
	answers(t, "Append", d.Append([]byte("XYZ")), api.OK)
	want(t, "behind a Cut and an Append", d, state{"abXYZ", 2, false})
	answers(t, "Cut", d.Cut(3), api.OK)
	answers(t, "Append", d.Append([]byte("12345678")), api.OK)
	want(t, "the same again", d, state{"abX12345678", 2, false})
	d.Crash(0)
	want(t, "behind a Crash", d, state{"ab", 2, false})
}

func TestADeadDiskIsReadAndDoesNothing(t *testing.T) {
	for _, row := range []string{"", "abcdef"} {
		for synced := range len(row) + 1 {
			d := killed(t, row, synced)
			for range 2 {
				answers(t, "Append", d.Append([]byte("z")), api.ErrCrash)
				answers(t, "Append of nothing", d.Append(nil), api.ErrCrash)
				answers(t, "Sync", d.Sync(), api.ErrCrash)
				for _, n := range numbers(len(row)) {
					answers(t, "Cut", d.Cut(n), api.ErrCrash)
				}
				want(t, "dead", d, state{row, synced, true})
			}
		}
	}
}

func TestDisksAreApart(t *testing.T) {
	a, b := having(t, "abc", 1), having(t, "xyz", 2)
	a.Fuse(0)
	answers(t, "Sync of the other one", b.Sync(), api.OK)
	answers(t, "Sync", a.Sync(), api.ErrCrash)
	want(t, "one", a, state{"abc", 1, true})
	want(t, "the other one", b, state{"xyz", 3, false})
	want(t, "a later one", disk.New(), state{"", 0, false})
}

func TestManyBytes(t *testing.T) {
	const many = 200000
	d := disk.New()
	var row strings.Builder
	for i := range many {
		row.WriteByte(byte(i * 7))
		if d.Append([]byte{byte(i * 7)}) != api.OK || i == many/2 && d.Sync() != api.OK || d.Len() != i+1 {
			t.Fatalf("byte %d: Len %d", i, d.Len())
		}
	}
	want(t, "many bytes", d, state{row.String(), many/2 + 1, false})
	d.Crash(1000)
	want(t, "many bytes, crashed", d, state{row.String()[:many/2+1001], many/2 + 1001, false})
}
