package disk_test

import (
	"math"
	"testing"

	"gavel/api"
	"gavel/disk"
)

// P7.2: Fuse, Crash, Dead

// call is one that counts against a Fuse.
type call struct {
	name string
	do   func(d *disk.Disk) api.Errno
}

func append1(d *disk.Disk) api.Errno { return d.Append([]byte("z")) }

// calls are those that are OK on a disk that is not dead, whatever it has.
func calls() []call {
	return []call{
		{"Append", append1},
		{"Append of nothing", func(d *disk.Disk) api.Errno { return d.Append(nil) }},
		{"Sync", func(d *disk.Disk) api.Errno { return d.Sync() }},
		{"Cut of nothing", func(d *disk.Disk) api.Errno { return d.Cut(d.Len()) }},
		{"Cut of all", func(d *disk.Disk) api.Errno { return d.Cut(0) }},
	}
}

func TestFuseLetsSoManyCallsThrough(t *testing.T) {
	for _, n := range []int{0, 1, 2, 3, 7, 1000} {
		for _, c := range calls() {
			d := having(t, "abcdef", 2)
			d.Fuse(n)
			want(t, "behind Fuse", d, state{"abcdef", 2, false})
			for range n {
				answers(t, c.name, c.do(d), api.OK)
			}
			if d.Dead() {
				t.Fatalf("%s: dead ahead of its time", c.name)
			}
			row, synced := string(d.Read()), d.Synced()
			for range 3 {
				answers(t, c.name+" that the Fuse stops", c.do(d), api.ErrCrash)
				want(t, c.name+" that the Fuse stops", d, state{row, synced, true})
			}
		}
	}
}

func TestEachCallCountsAsOne(t *testing.T) {
	for _, first := range calls() {
		for _, second := range calls() {
			for _, third := range calls() {
				d := having(t, "abcdef", 2)
				d.Fuse(2)
				answers(t, first.name, first.do(d), api.OK)
				answers(t, second.name, second.do(d), api.OK)
				row, synced := string(d.Read()), d.Synced()
				answers(t, third.name, third.do(d), api.ErrCrash)
				want(t, third.name, d, state{row, synced, true})
			}
		}
	}
}

func TestFuseBelowNoughtIsNought(t *testing.T) {
	for _, n := range []int{-1, -2, -1 << 32, math.MinInt + 1, math.MinInt} {
		for _, c := range calls() {
			d := having(t, "abc", 1)
			d.Fuse(n)
			want(t, "behind Fuse", d, state{"abc", 1, false})
			answers(t, c.name, c.do(d), api.ErrCrash)
			want(t, c.name, d, state{"abc", 1, true})
		}
	}
}

func TestAGreatFuse(t *testing.T) {
	for _, n := range []int{1 << 20, 1 << 32, math.MaxInt - 1, math.MaxInt} {
		d := having(t, "abc", 1)
		d.Fuse(n)
		for range 1000 {
			answers(t, "Sync", d.Sync(), api.OK)
		}
		want(t, "a great Fuse", d, state{"abc", 3, false})
	}
}

func TestWithoutAFuseNoDiskDies(t *testing.T) {
	d := disk.New()
	for range 1000 {
		for _, c := range calls() {
			answers(t, c.name, c.do(d), api.OK)
		}
	}
	want(t, "without a Fuse", d, state{"", 0, false})
}

// Cut's own sentence names the dead disk, then the number, and says that this error does not count: neither as one that goes through nor as the next one.
func TestACutThatMayNotBeDoesNotCount(t *testing.T) {
	for left := range 4 {
		d := having(t, "abc", 1)
		d.Fuse(left)
		for range left {
			for _, n := range []int{-1, 4, math.MinInt, math.MaxInt} {
				answers(t, "Cut", d.Cut(n), api.ErrArg)
			}
			answers(t, "Sync", d.Sync(), api.OK)
		}
		synced := d.Synced()
		for _, n := range []int{-1, 4, math.MinInt, math.MaxInt} {
			answers(t, "Cut with nothing left of the Fuse", d.Cut(n), api.ErrArg)
			want(t, "Cut with nothing left of the Fuse", d, state{"abc", synced, false})
		}
		answers(t, "Cut", d.Cut(3), api.ErrCrash)
		want(t, "Cut", d, state{"abc", synced, true})
		answers(t, "Cut of a dead disk", d.Cut(-1), api.ErrCrash)
	}
}

func TestAskingDoesNotCount(t *testing.T) {
	d := having(t, "abc", 1)
	d.Fuse(1)
	for range 3 {
		want(t, "asked", d, state{"abc", 1, false})
		answers(t, "Sync of the clone", d.Clone().Sync(), api.OK)
	}
	answers(t, "Sync", d.Sync(), api.OK)
	for range 3 {
		want(t, "asked", d, state{"abc", 3, false})
		answers(t, "Sync of the clone", d.Clone().Sync(), api.ErrCrash)
	}
	answers(t, "Sync", d.Sync(), api.ErrCrash)
}

func TestAFuseAheadIsForgotten(t *testing.T) {
	fuses := []int{math.MinInt, -1, 0, 1, 2, 5, math.MaxInt}
	for _, first := range fuses {
		for _, second := range []int{math.MinInt, -1, 0, 1, 2, 5} {
			for gone := range min(max(first, 0), 3) + 1 {
				d := having(t, "abc", 1)
				d.Fuse(first)
				for range gone {
					answers(t, "Append", d.Append(nil), api.OK)
				}
				d.Fuse(second)
				for range max(second, 0) {
					answers(t, "Append", d.Append(nil), api.OK)
				}
				answers(t, "Sync", d.Sync(), api.ErrCrash)
				want(t, "behind the second Fuse", d, state{"abc", 1, true})
			}
		}
	}
}

func TestAFuseDoesNotWakeADeadDisk(t *testing.T) {
	for _, n := range []int{-1, 0, 1, 5, math.MaxInt} {
		d := killed(t, "abc", 1)
		d.Fuse(n)
		want(t, "behind Fuse", d, state{"abc", 1, true})
		for _, c := range calls() {
			answers(t, c.name, c.do(d), api.ErrCrash)
		}
		d.Crash(1)
		for range 1000 {
			answers(t, "Append of nothing", d.Append(nil), api.OK)
		}
		want(t, "behind Crash", d, state{"ab", 2, false})
	}
}

func TestCrashKeepsTheFirstOfWhatIsNotSynced(t *testing.T) {
	for _, row := range []string{"", "a", "abcdef"} {
		for synced := range len(row) + 1 {
			for _, keep := range append(numbers(len(row)), numbers(synced)...) {
				stay := row[:synced]
				for i := synced; i < len(row) && i-synced < keep; i++ {
					stay += row[i : i+1]
				}
				for _, d := range []*disk.Disk{having(t, row, synced), killed(t, row, synced)} {
					d.Crash(keep)
					want(t, "behind Crash", d, state{stay, len(stay), false})
					// What stayed is synced: a later Crash takes nothing of it.
					d.Crash(0)
					want(t, "behind another Crash", d, state{stay, len(stay), false})
				}
			}
		}
	}
}

func TestCrashOfThreeThatKeepsTwo(t *testing.T) {
	d := disk.New()
	answers(t, "Append", d.Append([]byte("abc")), api.OK)
	d.Crash(2)
	want(t, "behind Crash", d, state{"ab", 2, false})
	answers(t, "Append", d.Append([]byte("de")), api.OK)
	want(t, "behind Append", d, state{"abde", 2, false})
	d.Crash(1)
	want(t, "behind another Crash", d, state{"abd", 3, false})
}

func TestWhatACrashTookIsGone(t *testing.T) {
	d := having(t, "abcdef", 2)
	d.Crash(1)
	d.Crash(math.MaxInt)
	want(t, "behind two Crashes", d, state{"abc", 3, false})
	answers(t, "Cut", d.Cut(4), api.ErrArg)
	answers(t, "Sync", d.Sync(), api.OK)
	want(t, "behind Sync", d, state{"abc", 3, false})
}

func TestBehindACrashThereIsNoFuse(t *testing.T) {
	for _, n := range []int{-1, 0, 1, 5} {
		d := having(t, "abc", 1)
		d.Fuse(n)
		d.Crash(0)
		for range 1000 {
			answers(t, "Append of nothing", d.Append(nil), api.OK)
		}
		want(t, "live, behind Crash", d, state{"a", 1, false})
		d.Fuse(n)
		for range max(n, 0) {
			answers(t, "Append of nothing", d.Append(nil), api.OK)
		}
		answers(t, "Append", append1(d), api.ErrCrash)
		d.Crash(0)
		for range 1000 {
			answers(t, "Append of nothing", d.Append(nil), api.OK)
		}
		want(t, "dead, behind Crash", d, state{"a", 1, false})
		d.Fuse(1)
		answers(t, "Append", append1(d), api.OK)
		answers(t, "Append", append1(d), api.ErrCrash)
		want(t, "with a later Fuse", d, state{"az", 1, true})
	}
}
