package wal_test

import (
	"bytes"
	"strings"
	"testing"

	"gavel/api"
	"gavel/disk"
	"gavel/wal"
)

// P8.1, R4: a log's records are its own.

// aLog is a log of two records that were read and one that was put.
func aLog(t *testing.T) (*disk.Disk, *wal.Wal) {
	t.Helper()
	d := having(t, "\x03abc\x00\x02torn", 4)
	answers(t, "Cut", d.Cut(7), api.OK)
	w := open(t, "a log", d)
	answers(t, "Put", w.Put([]byte("def")), api.OK)
	wantALog(t, "at first", d, w)
	return d, w
}

func wantALog(t *testing.T, what string, d *disk.Disk, w *wal.Wal, more ...string) {
	t.Helper()
	row, records := "\x03abc\x00\x03def", []string{"abc", "", "def"}
	for _, r := range more {
		row += string(rune(len(r))) + r
	}
	wantLog(t, what, w, append(records, more...)...)
	wantDisk(t, what, d, state{row, len(row), false})
}

func TestWhatIsPutIsNotKept(t *testing.T) {
	d, w := aLog(t)
	b := []byte("ghi")
	answers(t, "Put", w.Put(b), api.OK)
	b[0] = 'X'
	wantALog(t, "changed behind Put", d, w, "ghi")
	answers(t, "Put", w.Put(b), api.OK)
	clear(b)
	wantALog(t, "cleared behind Put", d, w, "ghi", "Xhi")
	wantLog(t, "cleared behind Put, again", open(t, "again", d), "abc", "", "def", "ghi", "Xhi")
}

func TestWhatIsPutIsNotChangedNorIsWhatLiesAboutIt(t *testing.T) {
	memory := []byte("abcdefgh")
	before := bytes.Clone(memory)
	d, w := aLog(t)
	answers(t, "Put", w.Put(memory[2:5]), api.OK)
	answers(t, "Put", w.Put(memory[5:5]), api.OK)
	answers(t, "Put", w.Put([]byte("123")), api.OK)
	answers(t, "Put", w.Put(memory[4:6]), api.OK)
	if !bytes.Equal(memory, before) {
		t.Errorf("the memory was changed: %q", memory)
	}
	wantALog(t, "of rows with bytes about them", d, w, "cde", "", "123", "ef")
	long := make([]byte, api.MaxText+1)
	long[api.MaxText] = 'z'
	answers(t, "Put of all but the last", w.Put(long[:api.MaxText]), api.OK)
	answers(t, "Put of all", w.Put(long), api.ErrLimit)
	if !bytes.Equal(long, append(make([]byte, api.MaxText), 'z')) {
		t.Error("the long memory was changed")
	}
}

func TestRecordsAreTheCallers(t *testing.T) {
	d, w := aLog(t)
	first, second := w.Records(), w.Records()
	for _, b := range first {
		clear(b[:cap(b)])
	}
	clear(first[:cap(first)])
	if string(bytes.Join(second, []byte("|"))) != "abc||def" {
		t.Errorf("two answers share memory: %q", second)
	}
	wantALog(t, "the first answer cleared", d, w)
	// The answer that was made last may be the log's own memory no more than an earlier one.
	last := w.Records()
	for _, b := range last {
		clear(b[:cap(b)])
	}
	clear(last[:cap(last)])
	wantALog(t, "the last answer cleared", d, w)
	_ = append(w.Records()[:1], []byte("X"))
	_ = append(w.Records()[0][:1], 'X')
	wantALog(t, "written within an answer", d, w)
	answers(t, "Put", w.Put([]byte("g")), api.OK)
	wantALog(t, "behind Put", d, w, "g")
}

func TestRecordsShareNoMemory(t *testing.T) {
	d, w := aLog(t)
	l := w.Records()
	for i, b := range l {
		for j := range b[:cap(b)] {
			b[:cap(b)][j] = 'A' + byte(i)
		}
	}
	for i, b := range l {
		if whole := b[:cap(b)]; string(whole) != strings.Repeat(string(rune('A'+i)), len(whole)) {
			t.Errorf("record %d has memory of another one: %q", i, whole)
		}
	}
	for i := range l {
		l[i] = append(l[i], "XXXXXXXX"...)
	}
	if string(bytes.Join(l, []byte("|"))) != "AAAXXXXXXXX|XXXXXXXX|CCCXXXXXXXX" {
		t.Errorf("records grew into each other: %q", l)
	}
	wantALog(t, "records grew", d, w)
}

func TestRecordsStayAsTheyWere(t *testing.T) {
	_, w := aLog(t)
	l := w.Records()
	spare := l[2][3:cap(l[2])]
	before := bytes.Clone(spare)
	for range 50 {
		answers(t, "Put", w.Put([]byte("99")), api.OK)
	}
	if len(l) != 3 || string(bytes.Join(l, []byte("|"))) != "abc||def" || !bytes.Equal(spare, before) {
		t.Errorf("an answer became %q", l)
	}
}

func TestARecordIsPutAgain(t *testing.T) {
	d, w := aLog(t)
	l := w.Records()
	for _, i := range []int{0, 1, 2} {
		answers(t, "Put", w.Put(l[i]), api.OK)
	}
	clear(l[0])
	wantALog(t, "records put again", d, w, "abc", "", "def")
}

func TestWhatIsReadOffTheDiskIsNotTheLogs(t *testing.T) {
	d, w := aLog(t)
	row := d.Read()
	clear(row[:cap(row)])
	wantALog(t, "what was read cleared", d, w)
	v := open(t, "again", d)
	l := v.Records()
	clear(l[0])
	clear(l[2])
	wantALog(t, "records of another log cleared", d, w)
	wantALog(t, "records cleared", d, v)
}

func TestTheDiskIsUsedAsItIs(t *testing.T) {
	d, w := aLog(t)
	before := d.Clone()
	answers(t, "Put", w.Put([]byte("ghi")), api.OK)
	wantALog(t, "Put", d, w, "ghi")
	wantDisk(t, "a clone made ahead of it", before, state{"\x03abc\x00\x03def", 9, false})
}

func TestTheLogKeepsWhatItRead(t *testing.T) {
	d, w := aLog(t)
	answers(t, "Cut", d.Cut(0), api.OK)
	wantLog(t, "the disk cut", w, "abc", "", "def")
	wantLog(t, "opened again", open(t, "again", d))
	answers(t, "Append", d.Append([]byte("\x01x\x80\x80\x80\x80\x80\x80\x80\x80")), api.OK)
	wantLog(t, "the disk written", w, "abc", "", "def")
	wantLog(t, "opened again", open(t, "again", d), "x")
	wantDisk(t, "opened again", d, state{"\x01x", 2, false})
}
