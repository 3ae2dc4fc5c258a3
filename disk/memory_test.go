package disk_test

import (
	"bytes"
	"math"
	"testing"

	"gavel/api"
	"gavel/disk"
)

// P7.1, R4: a disk's bytes are its own.

func TestWhatIsHandedInIsNotKept(t *testing.T) {
	for _, first := range []string{"", "xy"} {
		d := having(t, first, 0)
		b := []byte("abc")
		answers(t, "Append", d.Append(b), api.OK)
		b[0] = 'X'
		want(t, "the row changed behind Append", d, state{first + "abc", 0, false})
		answers(t, "Append", d.Append(b), api.OK)
		clear(b)
		want(t, "the row cleared behind Append", d, state{first + "abcXbc", 0, false})
	}
}

func TestWhatIsHandedInIsNotChangedNorIsWhatLiesAboutIt(t *testing.T) {
	memory := []byte("abcdefgh")
	before := bytes.Clone(memory)
	d := disk.New()
	answers(t, "Append", d.Append(memory[2:5]), api.OK)
	answers(t, "Append", d.Append([]byte("123")), api.OK)
	answers(t, "Append", d.Append(memory[2:2]), api.OK)
	answers(t, "Cut", d.Cut(1), api.OK)
	answers(t, "Append", d.Append([]byte("456")), api.OK)
	if !bytes.Equal(memory, before) {
		t.Errorf("the memory was changed: %q", memory)
	}
	want(t, "of a row with bytes about it", d, state{"c456", 0, false})
}

func TestWhatIsReadIsTheCallers(t *testing.T) {
	d := having(t, "abcdef", 3)
	first, second := d.Read(), d.Read()
	clear(first)
	if string(second) != "abcdef" {
		t.Errorf("two Reads share memory: %q", second)
	}
	want(t, "the first Read cleared", d, state{"abcdef", 3, false})
	// The one Read that was made last may be the disk's own memory no more than an earlier one.
	last := d.Read()
	clear(last[:cap(last)])
	want(t, "the last Read cleared", d, state{"abcdef", 3, false})
	_ = append(d.Read()[:2], 'X')
	want(t, "written within a Read", d, state{"abcdef", 3, false})
	answers(t, "Append", d.Append([]byte("g")), api.OK)
	want(t, "behind Append", d, state{"abcdefg", 3, false})
}

func TestWhatWasReadStaysAsItWas(t *testing.T) {
	d := having(t, "abcdef", 3)
	read := d.Read()
	spare := read[len(read):cap(read)]
	before := bytes.Clone(spare)
	answers(t, "Append", d.Append([]byte("123")), api.OK)
	answers(t, "Cut", d.Cut(1), api.OK)
	answers(t, "Append", d.Append([]byte("45678")), api.OK)
	d.Crash(0)
	answers(t, "Append", d.Append([]byte("999999")), api.OK)
	if string(read) != "abcdef" || !bytes.Equal(spare, before) {
		t.Errorf("what was read became %q, behind it %q", read, spare)
	}
	want(t, "at the end", d, state{"a999999", 1, false})
}

func TestWhatWasReadIsAppended(t *testing.T) {
	d := having(t, "abc", 1)
	read := d.Read()
	answers(t, "Append", d.Append(read), api.OK)
	answers(t, "Append", d.Append(d.Read()[1:5]), api.OK)
	want(t, "its own bytes", d, state{"abcabcbcab", 1, false})
}

// P7.2: Clone

func TestCloneIsAsTheDiskIs(t *testing.T) {
	for _, d := range []*disk.Disk{disk.New(), having(t, "abcdef", 3), having(t, "abcdef", 0), having(t, "abcdef", 6), killed(t, "", 0), killed(t, "abcdef", 2)} {
		c := d.Clone()
		if c == d {
			t.Error("it is the same disk")
		}
		s := state{string(d.Read()), d.Synced(), d.Dead()}
		want(t, "the clone", c, s)
		d.Crash(1)
		want(t, "the clone, the disk crashed", c, s)
		c.Crash(1)
		want(t, "the disk, both crashed", d, state{string(c.Read()), c.Synced(), false})
	}
}

func TestACloneHasTheFuse(t *testing.T) {
	for n := range 4 {
		for gone := range n + 1 {
			d := having(t, "abc", 1)
			d.Fuse(n)
			for range gone {
				answers(t, "Append of nothing", d.Append(nil), api.OK)
			}
			c := d.Clone()
			for _, x := range []*disk.Disk{d, c} {
				for range n - gone {
					answers(t, "Append of nothing", x.Append(nil), api.OK)
				}
				answers(t, "Append", append1(x), api.ErrCrash)
				want(t, "with the Fuse", x, state{"abc", 1, true})
			}
		}
	}
	c := having(t, "abc", 1).Clone()
	for range 100 {
		answers(t, "Append of nothing, without a Fuse", c.Append(nil), api.OK)
	}
}

func TestEachGoesItsOwnWay(t *testing.T) {
	d := having(t, "abcdef", 3)
	c := d.Clone()
	answers(t, "Append", d.Append([]byte("1")), api.OK)
	want(t, "the clone, the disk appended", c, state{"abcdef", 3, false})
	answers(t, "Append", c.Append([]byte("2")), api.OK)
	want(t, "the disk, the clone appended", d, state{"abcdef1", 3, false})
	answers(t, "Sync", c.Sync(), api.OK)
	want(t, "the disk, the clone synced", d, state{"abcdef1", 3, false})
	answers(t, "Cut", d.Cut(1), api.OK)
	want(t, "the clone, the disk cut", c, state{"abcdef2", 7, false})
	c.Fuse(0)
	answers(t, "Append", d.Append([]byte("XY")), api.OK)
	answers(t, "Append", c.Append([]byte("Z")), api.ErrCrash)
	want(t, "the disk, the clone killed", d, state{"aXY", 1, false})
	d.Crash(1)
	want(t, "the clone, the disk crashed", c, state{"abcdef2", 7, true})
	c.Crash(0)
	d.Fuse(0)
	answers(t, "Sync", d.Sync(), api.ErrCrash)
	answers(t, "Sync", c.Sync(), api.OK)
	want(t, "the disk", d, state{"aX", 2, true})
	want(t, "the clone", c, state{"abcdef2", 7, false})
}

// Where bytes were cut away, memory lies behind those that are left: a disk and its clone may not share that either.
func TestEachAppendsInItsOwnMemory(t *testing.T) {
	for n := range 7 {
		d := having(t, "abcdef", 6)
		answers(t, "Cut", d.Cut(n), api.OK)
		c := d.Clone()
		other := c.Clone()
		answers(t, "Append", d.Append([]byte("123")), api.OK)
		answers(t, "Append", c.Append([]byte("xyz")), api.OK)
		answers(t, "Append", other.Append([]byte("!")), api.OK)
		want(t, "the disk", d, state{"abcdef"[:n] + "123", n, false})
		want(t, "the clone", c, state{"abcdef"[:n] + "xyz", n, false})
		want(t, "the clone of that", other, state{"abcdef"[:n] + "!", n, false})
	}
}

func TestCloneChangesNothing(t *testing.T) {
	d := having(t, "abc", 1)
	for range 3 {
		c := d.Clone()
		c.Crash(math.MaxInt)
		c.Fuse(0)
		answers(t, "Cut", c.Cut(0), api.ErrCrash)
		want(t, "the disk", d, state{"abc", 1, false})
	}
	answers(t, "Sync", d.Sync(), api.OK)
	want(t, "behind Sync", d, state{"abc", 3, false})
}
