package wal_test

import (
	"strconv"
	"testing"

	"gavel/api"
	"gavel/disk"
)

// P8.1: Put, and what Records and Len tell then.

// putCases are records, each with its bytes on the disk.
func putCases() []struct{ record, row string } {
	return []struct{ record, row string }{
		{"", "\x00"},
		{"a", "\x01a"},
		{"\x00", "\x01\x00"},
		{"\x80", "\x01\x80"},
		{"abc", "\x03abc"},
		{manyBytes(127), "\x7f" + manyBytes(127)},
		{manyBytes(128), "\x80\x01" + manyBytes(128)},
		{manyBytes(300), "\xac\x02" + manyBytes(300)},
		{manyBytes(1<<14 - 1), "\xff\x7f" + manyBytes(1<<14-1)},
		{manyBytes(1 << 14), "\x80\x80\x01" + manyBytes(1<<14)},
		{manyBytes(api.MaxText - 1), "\xff\xff\x03" + manyBytes(api.MaxText-1)},
		{manyBytes(api.MaxText), "\x80\x80\x04" + manyBytes(api.MaxText)},
	}
}

func TestPutIsARecord(t *testing.T) {
	for _, c := range putCases() {
		d := disk.New()
		w := open(t, "an empty disk", d)
		wantLog(t, "an empty disk", w)
		answers(t, "Put", w.Put([]byte(c.record)), api.OK)
		wantLog(t, short(c.record), w, c.record)
		wantDisk(t, short(c.record), d, state{c.row, len(c.row), false})
		d.Crash(0)
		wantLog(t, short(c.record)+", behind a crash", open(t, "again", d), c.record)
	}
}

func TestPutsStandInOrder(t *testing.T) {
	d := having(t, "\x01z\x00\x02t", 2)
	w := open(t, "a log", d)
	row, records := "\x01z\x00", []string{"z", ""}
	wantLog(t, "at first", w, records...)
	for range 2 {
		for _, c := range putCases() {
			answers(t, "Put", w.Put([]byte(c.record)), api.OK)
			row, records = row+c.row, append(records, c.record)
			wantLog(t, short(c.record), w, records...)
			wantDisk(t, short(c.record), d, state{row, len(row), false})
		}
	}
	answers(t, "Put of nil", w.Put(nil), api.OK)
	row, records = row+"\x00", append(records, "")
	wantLog(t, "nil", w, records...)
	wantDisk(t, "nil", d, state{row, len(row), false})
	wantLog(t, "opened again", open(t, "again", d), records...)
	wantDisk(t, "opened again", d, state{row, len(row), false})
}

func TestPutOfMoreThanMaxText(t *testing.T) {
	for _, more := range []int{1, 2, 100, api.MaxText, 1 << 22} {
		long := make([]byte, api.MaxText+more)
		d := having(t, "\x01a", 2)
		w := open(t, "a log", d)
		d.Fuse(2)
		answers(t, "Put", w.Put(long), api.ErrLimit)
		wantLog(t, "too long", w, "a")
		wantDisk(t, "too long", d, state{"\x01a", 2, false})
		// It did not count against the Fuse.
		answers(t, "Put", w.Put([]byte("b")), api.OK)
		wantLog(t, "behind it", w, "a", "b")
		wantDisk(t, "behind it", d, state{"\x01a\x01b", 4, false})
		// It is asked ahead of the disk.
		answers(t, "Put with a Fuse of none", w.Put(long), api.ErrLimit)
		wantDisk(t, "with a Fuse of none", d, state{"\x01a\x01b", 4, false})
		answers(t, "Put", w.Put(nil), api.ErrCrash)
		answers(t, "Put on a dead disk", w.Put(long), api.ErrLimit)
		wantDisk(t, "on a dead disk", d, state{"\x01a\x01b", 4, true})
		wantLog(t, "on a dead disk", w, "a", "b")
	}
}

func TestPutThatAFuseStops(t *testing.T) {
	for _, c := range putCases() {
		for fuse, after := range map[int]state{
			0: {"\x01a", 2, true},
			1: {"\x01a" + c.row, 2, true},
			2: {"\x01a" + c.row, 2 + len(c.row), false},
		} {
			what := short(c.record) + " Fuse " + strconv.Itoa(fuse)
			d := having(t, "\x01a", 2)
			w := open(t, what, d)
			d.Fuse(fuse)
			want, records := api.ErrCrash, []string{"a"}
			if fuse == 2 {
				want, records = api.OK, []string{"a", c.record}
			}
			answers(t, what, w.Put([]byte(c.record)), want)
			wantLog(t, what, w, records...)
			wantDisk(t, what, d, after)
			// The disk is dead, or dies of this one.
			answers(t, what+", then", w.Put([]byte("zz")), api.ErrCrash)
			after.dead = true
			wantLog(t, what+", then", w, records...)
			wantDisk(t, what+", then", d, after)
		}
	}
}

func TestPutOnADeadDisk(t *testing.T) {
	d := having(t, "\x01a", 2)
	w := open(t, "a log", d)
	d.Fuse(0)
	answers(t, "Sync", d.Sync(), api.ErrCrash)
	for _, c := range putCases() {
		answers(t, "Put on a dead disk", w.Put([]byte(c.record)), api.ErrCrash)
		wantLog(t, "on a dead disk", w, "a")
		wantDisk(t, "on a dead disk", d, state{"\x01a", 2, true})
	}
}

func TestPutSyncsAllThereIs(t *testing.T) {
	d := disk.New()
	w := open(t, "an empty disk", d)
	for n := range 5 {
		d.Fuse(2)
		answers(t, "Put", w.Put(nil), api.OK)
		if got := left(d, 9); got != 0 || d.Synced() != n+1 || d.Len() != n+1 {
			t.Fatalf("put %d: Fuse %d, Synced %d, Len %d", n, got, d.Synced(), d.Len())
		}
	}
}

func TestManyPuts(t *testing.T) {
	d := disk.New()
	w := open(t, "an empty disk", d)
	var records []string
	for i := range 20000 {
		r := strconv.Itoa(i * i)[:i%4%len(strconv.Itoa(i*i))]
		answers(t, "Put", w.Put([]byte(r)), api.OK)
		records = append(records, r)
	}
	wantLog(t, "many", w, records...)
	wantLog(t, "many, again", open(t, "again", d), records...)
}
