package ledger_test

import (
	"bytes"
	"slices"

	"gavel/api"
	"gavel/batch"
	"gavel/ledger"
)

// plain is a ledger told another way: it keeps the batches that were taken, and goes through them all for each answer.
type plain struct {
	taken []api.Batch
	did   int
}

func (p *plain) Epoch() int { return len(p.taken) }

func (p *plain) Last() uint64 { return p.lastAhead(len(p.taken)) }

// lastAhead is the last time ahead of that epoch.
func (p *plain) lastAhead(epoch int) uint64 {
	if epoch == 0 {
		return 0
	}
	return p.taken[epoch-1].Time
}

func (p *plain) Len() int { return len(p.log(len(p.taken))) }

// log is what stands in the log ahead of that epoch.
func (p *plain) log(epoch int) []api.Entry {
	var all []api.Entry
	for i := range epoch {
		x := p.taken[i]
		more := p.fit(x, p.lastAhead(i), all)
		for len(more) > 0 {
			first := slices.MinFunc(more, compare)
			all = append(all, first)
			more = slices.DeleteFunc(more, func(e api.Entry) bool { return e.Name == first.Name })
		}
	}
	return all
}

// fit are the entries of x's certificates that fit behind last and up to its time, of names that are not in ahead.
func (p *plain) fit(x api.Batch, last uint64, ahead []api.Entry) []api.Entry {
	var l []api.Entry
	for _, q := range x.Promises {
		for _, c := range q.Certs {
			if len(c.Stamps)%2 == 0 {
				continue
			}
			times := []uint64{}
			for _, s := range c.Stamps {
				times = append(times, s.Time)
			}
			slices.Sort(times)
			e := api.Entry{Name: c.Commit.Name, Hash: c.Commit.Hash, Time: times[len(times)/2]}
			named := func(other api.Entry) bool { return other.Name == e.Name }
			if e.Time > last && e.Time <= x.Time && !slices.ContainsFunc(ahead, named) {
				l = append(l, e)
			}
		}
	}
	return l
}

// compare orders by time, client, number and hash.
func compare(a, b api.Entry) int {
	for _, x := range [][2]uint64{{a.Time, b.Time}, {uint64(a.Name.Client) ^ 1<<63, uint64(b.Name.Client) ^ 1<<63}, {uint64(a.Name.Seq) ^ 1<<63, uint64(b.Name.Seq) ^ 1<<63}} {
		if x[0] != x[1] {
			return map[bool]int{true: -1, false: 1}[x[0] < x[1]]
		}
	}
	return bytes.Compare(a.Hash[:], b.Hash[:])
}

func (p *plain) Entry(i int) (api.Entry, bool) {
	for at, e := range p.log(len(p.taken)) {
		if at == i {
			return e, true
		}
	}
	return api.Entry{}, false
}

func (p *plain) Index(n api.Name) (int, bool) {
	for at, e := range p.log(len(p.taken)) {
		if e.Name == n {
			return at, true
		}
	}
	return 0, false
}

// Status looks for the first batch behind the place's own that names it.
func (p *plain) Status(i int) (int, []byte) {
	status := 0
	for epoch := range len(p.taken) + 1 {
		if status == 0 && i >= 0 && i < len(p.log(epoch)) {
			status = ledger.Open
		}
		if status == 0 || epoch == len(p.taken) {
			continue
		}
		for _, o := range p.taken[epoch].Openings {
			if o.Index == i {
				return ledger.Opened, o.Payload
			}
		}
		for _, x := range p.taken[epoch].Tombs {
			if x.Index == i {
				return ledger.Buried, nil
			}
		}
	}
	return status, nil
}

func (p *plain) Base(c api.Conf) batch.Base {
	s := batch.Base{Conf: c, Epoch: p.Epoch(), Last: p.Last(), Logged: map[api.Name]bool{}, Open: map[int]api.Entry{}}
	for i, e := range p.log(len(p.taken)) {
		s.Logged[e.Name] = true
		if status, _ := p.Status(i); status == ledger.Open {
			s.Open[i] = e
		}
	}
	return s
}

func (p *plain) Apply(x api.Batch) (int, api.Errno) {
	if x.Epoch == p.Epoch() && x.Time > p.Last() {
		ahead := p.Len()
		p.taken = append(slices.Clip(p.taken), x)
		return p.Len() - ahead, api.OK
	}
	return 0, api.ErrArg
}

func (p *plain) Next() (int, bool) {
	if status, _ := p.Status(p.did); status == ledger.Opened || status == ledger.Buried {
		return p.did, true
	}
	return 0, false
}

func (p *plain) Done() bool {
	if _, ok := p.Next(); !ok {
		return false
	}
	p.did++
	return true
}

func (p *plain) Clone() *plain {
	c := *p
	return &c
}
