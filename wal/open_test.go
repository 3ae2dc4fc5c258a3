package wal_test

import (
	"bytes"
	"encoding/binary"
	"slices"
	"strconv"
	"strings"
	"testing"

	"gavel/api"
	"gavel/disk"
	"gavel/wal"
)

// P8.1: Open, and what Records and Len tell then.

// state is what a disk tells.
type state struct {
	row    string
	synced int
	dead   bool
}

func stateOf(d *disk.Disk) state {
	return state{string(d.Read()), d.Synced(), d.Dead()}
}

// short shows a text, of a long one its beginning.
func short(s string) string {
	if len(s) > 60 {
		return strconv.Quote(s[:60]) + ".. of " + strconv.Itoa(len(s)) + " bytes"
	}
	return strconv.Quote(s)
}

func (s state) String() string {
	return short(s.row) + " synced " + strconv.Itoa(s.synced) + " dead " + strconv.FormatBool(s.dead)
}

// wantDisk holds what d tells.
func wantDisk(t *testing.T, what string, d *disk.Disk, s state) {
	t.Helper()
	if got := stateOf(d); got != s {
		t.Fatalf("%s: the disk has %v, want %v", what, got, s)
	}
}

// wantLog holds what w tells, twice, for asking may change nothing.
func wantLog(t *testing.T, what string, w *wal.Wal, records ...string) {
	t.Helper()
	for range 2 {
		got := w.Records()
		same := slices.EqualFunc(got, records, func(b []byte, s string) bool { return string(b) == s })
		if !same || w.Len() != len(records) {
			t.Fatalf("%s: Len %d, %d records %s, want %d: %s", what, w.Len(), len(got), short(string(bytes.Join(got, []byte("|")))), len(records), short(strings.Join(records, "|")))
		}
	}
}

// answers holds what a call answered.
func answers(t *testing.T, what string, got, want api.Errno) {
	t.Helper()
	if got != want {
		t.Fatalf("%s: %d, want %d", what, got, want)
	}
}

// having makes a disk of that row, of which the first bytes are synced.
func having(t *testing.T, row string, synced int) *disk.Disk {
	t.Helper()
	d := disk.New()
	answers(t, "Append", d.Append([]byte(row[:synced])), api.OK)
	answers(t, "Sync", d.Sync(), api.OK)
	answers(t, "Append", d.Append([]byte(row[synced:])), api.OK)
	return d
}

// open opens a log that can be opened.
func open(t *testing.T, what string, d *disk.Disk) *wal.Wal {
	t.Helper()
	w, e := wal.Open(d)
	if e != api.OK || w == nil {
		t.Fatalf("%s: Open: %d, a log %v", what, e, w != nil)
	}
	return w
}

// left tells how many calls d's Fuse lets through yet, up to most.
func left(d *disk.Disk, most int) int {
	c := d.Clone()
	for n := range most {
		if c.Sync() != api.OK {
			return n
		}
	}
	return most
}

// opens expects of a disk with that row, its first bytes synced, a log of these records, which take size bytes: without a Fuse, and with each Fuse that could stop Open.
func opens(t *testing.T, row string, synced, size int, records ...string) {
	t.Helper()
	const calls = 2 // that Open makes at most
	for fuse := -1; fuse <= calls+1; fuse++ {
		what := short(row) + " synced " + strconv.Itoa(synced) + " Fuse " + strconv.Itoa(fuse)
		d := having(t, row, synced)
		let := calls + 9
		if fuse >= 0 {
			d.Fuse(fuse)
			let = fuse
		}
		want, made, stopped := state{row, synced, false}, 0, false
		step := func(needed bool, done state) {
			if !needed || stopped {
				return
			}
			if made == let {
				want.dead, stopped = true, true
				return
			}
			want, made = done, made+1
		}
		step(size < len(row), state{row[:size], min(synced, size), false})
		step(synced < size, state{row[:size], size, false})

		w, e := wal.Open(d)
		wantDisk(t, what, d, want)
		if stopped {
			if e != api.ErrCrash || w != nil {
				t.Fatalf("%s: Open: %d, a log %v", what, e, w != nil)
			}
			continue
		}
		if e != api.OK || w == nil {
			t.Fatalf("%s: Open: %d, a log %v", what, e, w != nil)
		}
		wantLog(t, what, w, records...)
		if got := left(d, calls+2); fuse >= 0 && got != fuse-made {
			t.Fatalf("%s: Open made %d calls that count, want %d", what, fuse-got, made)
		}
		wantLog(t, what, open(t, what+", again", d), records...)
		wantDisk(t, what+", again", d, want)
	}
}

// some tells numbers from 0 to n: all, if they are few.
func some(n int) []int {
	var l []int
	for i := range n + 1 {
		if n < 40 || i < 6 || i > n-6 || i%max(n/4, 1) == 0 {
			l = append(l, i)
		}
	}
	return l
}

// log is bytes, and which records they are.
type log struct {
	row     string
	records []string
}

func manyBytes(n int) string { return strings.Repeat("m", n) }

// wholes are logs of whole records.
func wholes() []log {
	return []log{
		{"", nil},
		{"\x00", []string{""}},
		{"\x00\x00\x00", []string{"", "", ""}},
		{"\x01a", []string{"a"}},
		{"\x03abc", []string{"abc"}},
		{"\x01\x00", []string{"\x00"}},
		{"\x02\x80\x00", []string{"\x80\x00"}},
		{"\x03abc\x00\x01d", []string{"abc", "", "d"}},
		{"\x01b\x01a\x01b\x01b", []string{"b", "a", "b", "b"}},
		{"\x7f" + manyBytes(127), []string{manyBytes(127)}},
		{"\x80\x01" + manyBytes(128) + "\x01a", []string{manyBytes(128), "a"}},
		{"\xac\x02" + manyBytes(300), []string{manyBytes(300)}},
		{"\x00\xff\x7f" + manyBytes(1<<14-1), []string{"", manyBytes(1<<14 - 1)}},
		{"\x80\x80\x01" + manyBytes(1<<14), []string{manyBytes(1 << 14)}},
		{"\xff\xff\x03" + manyBytes(api.MaxText-1), []string{manyBytes(api.MaxText - 1)}},
		{"\x80\x80\x04" + manyBytes(api.MaxText), []string{manyBytes(api.MaxText)}},
	}
}

// breaksOff are ends of a disk that are no whole record, as bytes are missing.
func breaksOff() []string {
	return []string{
		"\x01", "\x03", "\x03ab", "\x7f", "\x7f" + manyBytes(126),
		"\x80", "\xff", "\x80\x80", "\xff\xff\xff\xff", strings.Repeat("\x80", 9), strings.Repeat("\xff", 9),
		"\x80\x01", "\x80\x01" + manyBytes(127), "\xac\x02" + manyBytes(299),
		"\x80\x80\x04", "\x80\x80\x04" + manyBytes(api.MaxText-1), "\xff\xff\x03" + manyBytes(api.MaxText-2),
	}
}

// never are beginnings that no byte behind them makes a whole record.
func never() []string {
	return []string{
		"\x80\x00", "\x81\x00", "\x83\x00abc", "\x80\x80\x00", "\xac\x82\x00" + manyBytes(300), // lengths that end in a byte of 0
		"\x81\x80\x04", "\x81\x80\x04" + manyBytes(9), "\x81\x80\x04" + manyBytes(api.MaxText+1), // one more than MaxText
		"\x80\x80\x08" + manyBytes(2*api.MaxText),
		"\xff\xff\xff\xff\x07",                                                 // 2^31 - 1
		"\x80\x80\x80\x80\x08", "\x80\x80\x80\x80\x10", "\x81\x80\x80\x80\x10", // 2^31, 2^32, 2^32 + 1
		strings.Repeat("\xff", 8) + "\x7f",          // 2^63 - 1
		strings.Repeat("\x80", 9) + "\x01",          // 2^63
		"\x81" + strings.Repeat("\x80", 8) + "\x01", // 2^63 + 1
		strings.Repeat("\xff", 9) + "\x01",          // 2^64 - 1
		strings.Repeat("\x80", 9) + "\x02",          // 2^64
		"\x81" + strings.Repeat("\x80", 8) + "\x02", // 2^64 + 1
		strings.Repeat("\x80", 10), strings.Repeat("\x80", 10) + "\x01", strings.Repeat("\xff", 30),
	}
}

// fewer are some of them, for tests that open each one many times.
func fewer() []log {
	all := wholes()
	few := slices.DeleteFunc(slices.Clone(all), func(l log) bool { return len(l.row) > 1000 })
	return append(few, all[len(all)-1])
}

func TestOpenReadsWholeRecords(t *testing.T) {
	for _, l := range wholes() {
		for _, synced := range some(len(l.row)) {
			opens(t, l.row, synced, len(l.row), l.records...)
		}
	}
}

func TestOpenCutsWhatBreaksOff(t *testing.T) {
	for _, l := range fewer() {
		for _, end := range breaksOff() {
			row := l.row + end
			for _, synced := range some(len(row)) {
				opens(t, row, synced, len(l.row), l.records...)
			}
		}
	}
}

func TestOpenCutsWhatIsNoRecordAndAllBehindIt(t *testing.T) {
	for _, l := range fewer() {
		for _, bad := range never() {
			for _, behind := range []string{"", "\x00", "\x01a\x03abc\x00", "\x01", "\xff\xff", "\x03abc" + manyBytes(200)} {
				row := l.row + bad + behind
				for _, synced := range []int{len(l.row) / 2, len(l.row), len(row)} {
					opens(t, row, synced, len(l.row), l.records...)
				}
			}
		}
	}
}

func TestOpenAtEachEndOfALog(t *testing.T) {
	row, ends, records := "", []int{0}, []string{"abc", "", manyBytes(130), "", "", "\x00", "xy"}
	for _, r := range records {
		row += string(binary.AppendUvarint(nil, uint64(len(r)))) + r
		ends = append(ends, len(row))
	}
	for n := range len(row) + 1 {
		k := 0
		for k+1 < len(ends) && ends[k+1] <= n {
			k++
		}
		for _, synced := range []int{0, ends[k], n} {
			opens(t, row[:n], synced, ends[k], records[:k]...)
		}
	}
}

// split tells the whole records at the beginning of a short row, and their bytes, another way than the program does.
func split(row string) (records []string, size int) {
	for {
		n, k := binary.Uvarint([]byte(row[size:]))
		if k <= 0 || k > 1 && row[size+k-1] == 0 || n > uint64(len(row)-size-k) {
			return records, size
		}
		size += k + int(n)
		records = append(records, row[size-int(n):size])
	}
}

func TestOpenOfEachShortRow(t *testing.T) {
	const letters = "\x00\x01\x02\x03\x7f\x80\x81\xff"
	var from func(row string)
	from = func(row string) {
		records, size := split(row)
		opens(t, row, len(row)/2, size, records...)
		if len(row) == 5 {
			return
		}
		for i := range len(letters) {
			from(row + letters[i:i+1])
		}
	}
	from("")
}

func TestOpenOfADeadDisk(t *testing.T) {
	for _, l := range wholes() {
		for _, end := range []string{"", "\x80", "\x03ab", "\x80\x00\x01a"} {
			for _, synced := range []int{0, len(l.row) / 2, len(l.row), len(l.row) + len(end)} {
				d := having(t, l.row+end, synced)
				d.Fuse(0)
				answers(t, "Sync", d.Sync(), api.ErrCrash)
				for range 2 {
					if w, e := wal.Open(d); e != api.ErrCrash || w != nil {
						t.Fatalf("Open of a dead disk: %d, a log %v", e, w != nil)
					}
					wantDisk(t, "a dead disk", d, state{l.row + end, synced, true})
				}
			}
		}
	}
}

func TestOpenGoesOnWhereItStopped(t *testing.T) {
	d := having(t, "\x01a\x01b\x03c", 1)
	d.Fuse(0)
	if w, e := wal.Open(d); e != api.ErrCrash || w != nil {
		t.Fatalf("stopped in Cut: %d, a log %v", e, w != nil)
	}
	wantDisk(t, "stopped in Cut", d, state{"\x01a\x01b\x03c", 1, true})
	d.Crash(4)
	d.Fuse(1)
	w := open(t, "stopped in Cut", d)
	wantLog(t, "stopped in Cut", w, "a", "b")
	wantDisk(t, "stopped in Cut", d, state{"\x01a\x01b", 4, false})

	d = having(t, "\x01a\x01b\x03c", 1)
	d.Fuse(1)
	if w, e := wal.Open(d); e != api.ErrCrash || w != nil {
		t.Fatalf("stopped in Sync: %d, a log %v", e, w != nil)
	}
	wantDisk(t, "stopped in Sync", d, state{"\x01a\x01b", 1, true})
	d.Crash(2)
	d.Fuse(1)
	wantLog(t, "stopped in Sync", open(t, "stopped in Sync", d), "a")
	wantDisk(t, "stopped in Sync", d, state{"\x01a", 2, false})
}

func TestLogsOfTwoDisks(t *testing.T) {
	d := having(t, "\x01a", 2)
	c := d.Clone()
	w, v := open(t, "a disk", d), open(t, "its clone", c)
	answers(t, "Put", w.Put([]byte("d")), api.OK)
	answers(t, "Put", v.Put([]byte("cc")), api.OK)
	wantLog(t, "a disk", w, "a", "d")
	wantLog(t, "its clone", v, "a", "cc")
	wantDisk(t, "a disk", d, state{"\x01a\x01d", 4, false})
	wantDisk(t, "its clone", c, state{"\x01a\x02cc", 5, false})
}
