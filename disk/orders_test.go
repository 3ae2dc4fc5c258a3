package disk_test

import (
	"math"
	"math/rand"
	"strconv"
	"testing"

	"gavel/api"
	"gavel/disk"
)

// P7.1, P7.2: many orders, each step held against a plain disk.

// plain is a disk told another way: what a crash leaves and what it may take stand apart, and it says how many calls are left till it dies (-1: there is no Fuse).
type plain struct {
	safe, loose string
	left        int
	dead        bool
}

func (p *plain) state() state {
	return state{p.safe + p.loose, len(p.safe), p.dead}
}

// one counts a call that is OK but for the Fuse, and does it, if it may be.
func (p *plain) one(do func()) api.Errno {
	if p.dead = p.dead || p.left == 0; p.dead {
		return api.ErrCrash
	}
	if p.left > 0 {
		p.left--
	}
	do()
	return api.OK
}

func (p *plain) cut(n int) api.Errno {
	all := p.safe + p.loose
	if !p.dead && (n < 0 || n > len(all)) {
		return api.ErrArg
	}
	return p.one(func() {
		if n < len(p.safe) {
			p.safe, p.loose = all[:n], ""
		} else {
			p.loose = all[len(p.safe):n]
		}
	})
}

func (p *plain) crash(keep int) {
	for ; keep > 0 && p.loose != ""; keep-- {
		p.safe, p.loose = p.safe+p.loose[:1], p.loose[1:]
	}
	p.loose, p.left, p.dead = "", -1, false
}

// Kinds of steps.
const (
	appends = iota
	syncs
	cuts
	fuses
	crashes
	clones // the clone goes on in the place of the disk, which is spoilt
)

// step is one call; of a row its length, of a Cut how far from the end, if it says so.
type step struct {
	kind, n int
	fromEnd bool
}

func (s step) String() string {
	name := [...]string{"Append", "Sync", "Cut", "Fuse", "Crash", "Clone"}[s.kind] + " " + strconv.Itoa(s.n)
	if s.fromEnd {
		name += " from the end"
	}
	return name
}

// row tells bytes that show which step they are of.
func row(at, n int) []byte {
	b := make([]byte, n)
	for i := range b {
		b[i] = byte(at*16 + i + 1)
	}
	return b
}

// do does the step on both, and tells which disk goes on and what both answered.
func (s step) do(at int, d *disk.Disk, p *plain) (next *disk.Disk, got, want api.Errno) {
	n := s.n
	if s.fromEnd {
		n += d.Len()
	}
	switch s.kind {
	case appends:
		b := row(at, n)
		want = p.one(func() { p.loose += string(b) })
		got = d.Append(b)
		clear(b)
	case syncs:
		want = p.one(func() { p.safe, p.loose = p.safe+p.loose, "" })
		got = d.Sync()
	case cuts:
		got, want = d.Cut(n), p.cut(n)
	case fuses:
		d.Fuse(n)
		p.left = max(n, 0)
	case crashes:
		d.Crash(n)
		p.crash(n)
	case clones:
		c := d.Clone()
		d.Crash(0)
		d.Cut(0)
		d.Append(row(15, 9))
		d.Fuse(0)
		d.Sync()
		return c, got, want
	}
	return d, got, want
}

// play does all steps on a new disk, and tells the first one whose answer, or the state behind it, is another one than the plain disk's.
func play(steps []step) (fault string) {
	d, p := disk.New(), &plain{left: -1}
	for i, s := range steps {
		var got, want api.Errno
		d, got, want = s.do(i, d, p)
		told := state{string(d.Read()), d.Synced(), d.Dead()}
		if got != want || told != p.state() || d.Len() != len(told.row) {
			return s.String() + ", step " + strconv.Itoa(i) + ": " + strconv.Itoa(int(got)) + ", want " + strconv.Itoa(int(want)) + "; Len " + strconv.Itoa(d.Len()) + ", " + show(told) + ", want " + show(p.state())
		}
	}
	return ""
}

func show(s state) string {
	return strconv.Quote(s.row) + " synced " + strconv.Itoa(s.synced) + " dead " + strconv.FormatBool(s.dead)
}

func TestEachOrderOfAFewSteps(t *testing.T) {
	all := []step{
		{kind: appends}, {kind: appends, n: 3}, {kind: syncs},
		{kind: cuts, n: -1}, {kind: cuts}, {kind: cuts, n: 2}, {kind: cuts, n: -1, fromEnd: true}, {kind: cuts, fromEnd: true}, {kind: cuts, n: 1, fromEnd: true},
		{kind: fuses, n: -1}, {kind: fuses}, {kind: fuses, n: 1}, {kind: fuses, n: 2},
		{kind: crashes, n: -1}, {kind: crashes}, {kind: crashes, n: 2}, {kind: crashes, n: math.MaxInt},
		{kind: clones},
	}
	const most = 5
	var steps [most + 1]step
	steps[0] = step{kind: appends, n: 4}
	var from func(at int)
	from = func(at int) {
		if at > most {
			if fault := play(steps[:]); fault != "" {
				t.Fatalf("%v: %s", steps, fault)
			}
			return
		}
		for _, s := range all {
			steps[at] = s
			from(at + 1)
		}
	}
	from(1)
}

// anyStep tells a step; most of its numbers are near those that matter.
func anyStep(r *rand.Rand) step {
	near := func(most int) int { return r.Intn(most+3) - 1 }
	far := []int{math.MinInt, math.MinInt + 1, -1 << 32, 1 << 32, 1<<32 + 1, math.MaxInt - 1, math.MaxInt}
	s := step{}
	switch x := r.Intn(100); {
	case x < 35:
		s = step{kind: appends, n: r.Intn(10)}
	case x < 50:
		s = step{kind: syncs}
	case x < 65:
		s = step{kind: cuts, n: near(30)}
	case x < 75:
		s = step{kind: cuts, n: -near(6), fromEnd: true}
	case x < 82:
		s = step{kind: fuses, n: near(12)}
	case x < 92:
		s = step{kind: crashes, n: near(12)}
	default:
		s = step{kind: clones}
	}
	if s.kind != appends && !s.fromEnd && r.Intn(20) == 0 {
		s.n = far[r.Intn(len(far))]
	}
	return s
}

func TestManyLongOrders(t *testing.T) {
	r := rand.New(rand.NewSource(7))
	for i := range 3000 {
		steps := make([]step, 100)
		for j := range steps {
			steps[j] = anyStep(r)
		}
		if fault := play(steps); fault != "" {
			t.Fatalf("order %d: %s", i, fault)
		}
	}
}
