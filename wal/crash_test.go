package wal_test

import (
	"math"
	"math/rand"
	"slices"
	"strconv"
	"strings"
	"testing"

	"gavel/api"
	"gavel/disk"
	"gavel/wal"
)

// P8.2: crashes. Most tests here ask for more than it promises: which records there are, to the last byte that is kept.

// puts puts records till one is not put well, and tells how many were.
func puts(t *testing.T, w *wal.Wal, records []string) int {
	t.Helper()
	for i, r := range records {
		switch e := w.Put([]byte(r)); e {
		case api.OK:
		case api.ErrCrash:
			return i
		default:
			t.Fatalf("Put: %d", e)
		}
	}
	return len(records)
}

// rowOf tells a record's bytes on the disk.
func rowOf(record string) string {
	n := len(record)
	switch {
	case n < 1<<7:
		return string([]byte{byte(n)}) + record
	case n < 1<<14:
		return string([]byte{byte(n) | 0x80, byte(n >> 7)}) + record
	}
	return string([]byte{byte(n) | 0x80, byte(n>>7) | 0x80, byte(n >> 14)}) + record
}

// keeps are numbers of bytes that a crash may keep of a row.
func keeps(row string) []int {
	return append(some(len(row)+1), math.MinInt, -1, math.MaxInt)
}

func crashRecords() []string {
	return []string{"abc", "", "\x80\x80", manyBytes(127), "", "", manyBytes(128), "\x00", manyBytes(300), strings.Repeat("\x01", 20), manyBytes(api.MaxText), "z"}
}

func TestACrashInEachPut(t *testing.T) {
	records := crashRecords()
	for fuse := range 2*len(records) + 1 {
		at := fuse / 2
		torn := ""
		if fuse%2 == 1 {
			torn = rowOf(records[at])
		}
		for _, keep := range keeps(torn) {
			what := "Fuse " + strconv.Itoa(fuse) + " keep " + strconv.Itoa(keep)
			d := disk.New()
			w := open(t, what, d)
			d.Fuse(fuse)
			if got := puts(t, w, records); got != at {
				t.Fatalf("%s: %d records were put well, want %d", what, got, at)
			}
			d.Crash(keep)
			there := slices.Clone(records[:at])
			if torn != "" && keep >= len(torn) {
				there = append(there, records[at])
			}
			again := open(t, what, d)
			wantLog(t, what, again, there...)
			wantDisk(t, what, d, state{rows(there), len(rows(there)), false})
			// It goes on from there.
			there = append(there, "more", "")
			if got := puts(t, again, there[len(there)-2:]); got != 2 {
				t.Fatalf("%s: then %d records were put", what, got)
			}
			wantLog(t, what+", then", again, there...)
			d.Crash(0)
			wantLog(t, what+", then opened again", open(t, what, d), there...)
		}
	}
}

// rows tells the bytes of records.
func rows(records []string) string {
	s := ""
	for _, r := range records {
		s += rowOf(r)
	}
	return s
}

func TestACrashInOpen(t *testing.T) {
	well := []string{"abc", "", "d"}
	for _, last := range []string{"", "e", manyBytes(200)} {
		row := rowOf(last)
		for keep := range len(row) + 1 {
			d := disk.New()
			if got := puts(t, open(t, "an empty disk", d), well); got != len(well) {
				t.Fatalf("%d records were put", got)
			}
			w := open(t, "a log", d)
			d.Fuse(1)
			answers(t, "Put", w.Put([]byte(last)), api.ErrCrash)
			d.Crash(keep)
			want := well
			if keep == len(row) {
				want = append(want[:len(want):len(want)], last)
			}
			what := short(last) + " keep " + strconv.Itoa(keep)
			for _, again := range []int{0, 5, math.MaxInt} {
				d.Fuse(0)
				torn := keep > 0 && keep < len(row)
				if w, e := wal.Open(d); torn != (e == api.ErrCrash) || torn != (w == nil) || torn != d.Dead() {
					t.Fatalf("%s: Open that may do nothing: %d, a log %v, dead %v", what, e, w != nil, d.Dead())
				}
				d.Crash(again)
			}
			wantLog(t, what, open(t, what, d), want...)
		}
	}
}

func TestACrashBetweenSteps(t *testing.T) {
	d := disk.New()
	var there []string
	for _, r := range crashRecords() {
		d.Crash(0)
		w := open(t, "ahead of "+short(r), d)
		wantLog(t, "ahead of "+short(r), w, there...)
		d.Crash(math.MaxInt)
		answers(t, "Put", w.Put([]byte(r)), api.OK)
		there = append(there, r)
		// What is synced is there whatever a crash keeps, for the log that is open as well.
		d.Crash(0)
		wantLog(t, "behind "+short(r), w, there...)
	}
	wantLog(t, "at the end", open(t, "at the end", d), there...)
}

func TestRecordsThatNobodySynced(t *testing.T) {
	for keep := range 6 {
		d := having(t, "\x01a\x01b\x01c", 2)
		// A clone that crashes ahead of Open has what it kept; the disk itself has all, and Open syncs it.
		c := d.Clone()
		c.Crash(keep)
		wantLog(t, "crashed", open(t, "crashed", c), []string{"a", "b", "c"}[:1+min(keep, 4)/2]...)
		wantLog(t, "not crashed", open(t, "not crashed", d), "a", "b", "c")
		d.Crash(keep)
		wantLog(t, "crashed behind Open", open(t, "crashed behind Open", d), "a", "b", "c")
	}
}

// life is a log that crashes again and again, and what is known of it: the records that are there, and of one more whether it may be.
type life struct {
	t     *testing.T
	r     *rand.Rand
	d     *disk.Disk
	w     *wal.Wal
	there []string
	maybe []string
}

// crash crashes the disk, and opens the log, however often that is stopped.
func (l *life) crash() {
	l.d.Crash(l.r.Intn(40) - 2)
	for {
		if l.r.Intn(2) == 0 {
			l.d.Fuse(l.r.Intn(3))
		}
		w, e := wal.Open(l.d)
		if e == api.OK {
			l.w = w
			break
		}
		if e != api.ErrCrash || w != nil || !l.d.Dead() {
			l.t.Fatalf("Open: %d, a log %v, dead %v", e, w != nil, l.d.Dead())
		}
		l.d.Crash(l.r.Intn(40) - 2)
	}
	if l.w.Len() > len(l.there) {
		l.there = append(l.there, l.maybe...)
	}
	l.maybe = nil
}

// put puts a record, and crashes if that is not put well.
func (l *life) put() {
	record := strings.Repeat(string([]byte{byte(l.r.Intn(256))}), l.r.Intn(20))
	if l.r.Intn(20) == 0 {
		record = manyBytes(120 + l.r.Intn(20))
	}
	switch e := l.w.Put([]byte(record)); e {
	case api.OK:
		l.there = append(l.there, record)
	case api.ErrCrash:
		l.maybe = []string{record}
		wantLog(l.t, "not put well", l.w, l.there...)
		l.crash()
	default:
		l.t.Fatalf("Put: %d", e)
	}
}

func TestManyLives(t *testing.T) {
	for seed := range int64(400) {
		l := &life{t: t, r: rand.New(rand.NewSource(seed)), d: disk.New()}
		l.crash()
		for range 60 {
			switch l.r.Intn(8) {
			case 0:
				l.crash()
			case 1:
				l.d.Fuse(l.r.Intn(5))
			default:
				l.put()
			}
			wantLog(t, "seed "+strconv.FormatInt(seed, 10), l.w, l.there...)
		}
		l.crash()
		wantLog(t, "at the end, seed "+strconv.FormatInt(seed, 10), l.w, l.there...)
	}
}
