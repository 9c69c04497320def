package tally_test

import (
	"math/rand"
	"slices"
	"testing"

	"bellbuoy/api"
	"bellbuoy/net"
	"bellbuoy/stream"
	"bellbuoy/tally"
)

// noted is a frame that came, and what became of it.
type noted struct {
	tag int
	job api.Job
	out api.Outcome
}

// model is a table as chapter 34 says it: all frames that came, in the order in which they did.
type model struct {
	list []noted
}

func (m *model) find(tag int) int {
	return slices.IndexFunc(m.list, func(n noted) bool { return n.tag == tag })
}

func (m *model) take(tag int, j api.Job) api.Errno {
	at := slices.IndexFunc(three, func(s api.Stream) bool { return s.Id == j.Stream })
	switch {
	case m.find(tag) >= 0:
		return api.ErrTwice
	case at < 0:
		return api.ErrNone
	}
	own, _ := stream.Job(three[at], j.Release)
	if j != own {
		return api.ErrKind
	}
	m.list = append(m.list, noted{tag: tag, job: j})
	return api.OK
}

func (m *model) fate(o api.Outcome) api.Errno {
	at := m.find(o.Tag)
	switch {
	case at < 0:
		return api.ErrNone
	case o.Fate < 1 || o.Fate > 5:
		return api.ErrKind
	case m.list[at].out.Fate != 0:
		return api.ErrState
	case o.At < 0 || o.At > lastFate:
		return api.ErrRange
	}
	m.list[at].out = o
	return api.OK
}

// row is that of those frames that are picked.
func (m *model) row(id int, picked func(n noted) bool) api.Row {
	r := api.Row{Stream: id}
	var late []int64
	for _, n := range m.list {
		if !picked(n) {
			continue
		}
		r.Taken++
		r.Fates[n.out.Fate]++
		if n.out.Fate == api.Delivered {
			late = append(late, n.out.At-n.job.Deadline)
		}
	}
	if len(late) > 0 {
		r.Worst, r.Best = slices.Max(late), slices.Min(late)
	}
	return r
}

// tells is all that a table ought to tell.
func (m *model) tells() told {
	var a told
	most := 0
	for k, s := range three {
		r := m.row(s.Id, func(n noted) bool { return n.job.Stream == s.Id })
		a.rows[k] = r
		for f := 1; f < 6 && r.Taken > r.Fates[0]; f++ {
			a.ratios[k][f] = r.Fates[f] * 1000 / (r.Taken - r.Fates[0])
		}
		if n := r.Fates[api.Missed]; n > most || n == most && n > 0 && s.Id < a.worst {
			a.worst, a.missed, most = s.Id, true, n
		}
	}
	a.total = m.row(-1, func(noted) bool { return true })
	for _, n := range m.list {
		if n.out.Fate == api.Pending {
			a.open = append(a.open, n.tag)
		}
	}
	slices.Sort(a.open)
	return a
}

// anyJob is mostly a frame of a stream.
func anyJob(chance *rand.Rand) api.Job {
	s := three[chance.Intn(3)]
	j, _ := stream.Job(s, chance.Int63n(5000))
	switch chance.Intn(20) {
	case 0:
		j.Stream = chance.Intn(9)
	case 1:
		j.Cost += chance.Int63n(3) - 1
	case 2:
		j.Deadline += chance.Int63n(3) - 1
	case 3:
		j.Release = -1 - j.Release
	}
	return j
}

// anyOutcome is mostly one that can be, of some tag.
func anyOutcome(chance *rand.Rand, tags int) api.Outcome {
	o := api.Outcome{Tag: chance.Intn(tags), Fate: api.Fate(1 + chance.Intn(5)), At: chance.Int63n(9000)}
	switch chance.Intn(20) {
	case 0:
		o.Fate = api.Fate(chance.Intn(12) - 3)
	case 1:
		o.At = -chance.Int63n(3)
	case 2:
		o.At = lastFate - 1 + chance.Int63n(4)
	case 3:
		o.Fate = api.Delivered
	}
	return o
}

func TestAnyCalls(t *testing.T) { // P34.1 to P34.4
	chance := rand.New(rand.NewSource(341))
	taken, fates := map[api.Errno]int{}, map[api.Errno]int{}
	for range 1000 {
		x, m := made(t, three...), &model{}
		tags := 1 + chance.Intn(40)
		for range 60 {
			if chance.Intn(2) == 0 {
				tag, j := chance.Intn(tags), anyJob(chance)
				want := m.take(tag, j)
				if errno := x.Take(tag, j); errno != want {
					t.Fatalf("behind %v: Take(%d, %v) = %d; want %d", m.list, tag, j, errno, want)
				}
				taken[want]++
			} else {
				o := anyOutcome(chance, tags)
				want := m.fate(o)
				if errno := x.Fate(o); errno != want {
					t.Fatalf("behind %v: Fate(%v) = %d; want %d", m.list, o, errno, want)
				}
				fates[want]++
			}
			adds(t, x)
			if a, want := tells(x), m.tells(); !same(a, want) {
				t.Fatalf("of %v it tells %v; want %v", m.list, a, want)
			}
		}
	}
	for _, errno := range []api.Errno{api.OK, api.ErrTwice, api.ErrNone, api.ErrKind} {
		if taken[errno] < 300 {
			t.Errorf("Take: %d only %d times", errno, taken[errno])
		}
	}
	for _, errno := range []api.Errno{api.OK, api.ErrNone, api.ErrKind, api.ErrState, api.ErrRange} {
		if fates[errno] < 300 {
			t.Errorf("Fate: %d only %d times", errno, fates[errno])
		}
	}
}

// adds fails unless in each row the fates together are as many as came, and the total is all rows together.
func adds(t *testing.T, x *tally.Table) {
	t.Helper()
	var sum api.Row
	for _, s := range three {
		r, _ := x.Row(s.Id)
		n := 0
		for f := range r.Fates {
			n += r.Fates[f]
			sum.Fates[f] += r.Fates[f]
		}
		sum.Taken += r.Taken
		if n != r.Taken {
			t.Fatalf("%v: %d fates", r, n)
		}
	}
	if total := x.Total(); total.Taken != sum.Taken || total.Fates != sum.Fates {
		t.Fatalf("%v in all; the rows have %v", total, sum)
	}
}

func TestAnyOrder(t *testing.T) { // P34.5
	chance := rand.New(rand.NewSource(342))
	for range 300 {
		var jobs []api.Job
		var outs []api.Outcome
		for tag := range 1 + chance.Intn(12) {
			s := three[chance.Intn(3)]
			jobs = append(jobs, job(t, s, chance.Int63n(2000)))
			if chance.Intn(5) > 0 {
				outs = append(outs, api.Outcome{Tag: tag, Fate: max(api.Delivered, api.Fate(chance.Intn(10)-4)), At: chance.Int63n(4000)})
			}
		}
		filled := func() *tally.Table {
			x := made(t, three...)
			for tag, j := range jobs {
				if errno := x.Take(tag, j); errno != api.OK {
					t.Fatalf("Take(%d, %v) = %d", tag, j, errno)
				}
			}
			for _, o := range outs {
				ends(t, x, o.Tag, o.Fate, o.At)
			}
			return x
		}
		first := tells(filled())
		for range 10 {
			chance.Shuffle(len(outs), func(a, b int) { outs[a], outs[b] = outs[b], outs[a] })
			if again := tells(filled()); !same(first, again) {
				t.Fatalf("%v in another order: %v; want %v", outs, again, first)
			}
		}
	}
}

// station is a node of a network, and what of its frames a table has.
type station struct {
	table *tally.Table
	taken int
	ended [6]int
}

func TestOfNet(t *testing.T) { // P34.3, E4: what becomes of a network's frames is taken, all of it, and those that wait are open
	chance := rand.New(rand.NewSource(343))
	p := api.Plant{Nodes: 3, Length: 200, Room: 6, Beat: api.Beat{Nominal: 1}, Tune: 100, Base: 900, Step: 200, Period: 400}
	for id := range 6 {
		p.Streams = append(p.Streams, api.Stream{Id: id, Node: id % 3, Class: api.Class(1 + id/2), Period: 1 << 20, Deadline: 600, Slot: id, Bytes: id})
	}
	n, errno := net.New(p)
	if errno != api.OK {
		t.Fatalf("New(%v): %d", p, errno)
	}
	var stations [3]station
	for k := range stations {
		stations[k].table = made(t, p.Streams...)
	}
	for n.Time() < 30000 {
		id := chance.Intn(6)
		k := id % 3
		s := &stations[k]
		if chance.Intn(75) == 0 {
			now := n.Clock(k)
			if tag, errno := n.Release(k, id, [8]byte{}); errno == api.OK {
				takes(t, s.table, tag, p.Streams[id], now)
				s.taken++
			}
		}
		if l := n.Waits(k); len(l) > 0 && chance.Intn(200) == 0 {
			n.Cancel(k, l[chance.Intn(len(l))])
		}
		n.Step(nil)
		for k := range stations {
			s := &stations[k]
			for _, o := range n.Fates(k) {
				ends(t, s.table, o.Tag, o.Fate, o.At)
				s.ended[o.Fate]++
			}
			if n.Time()%100 == 0 && !slices.Equal(s.table.Open(), n.Waits(k)) {
				t.Fatalf("node %d: %v are open; want %v", k, s.table.Open(), n.Waits(k))
			}
		}
	}
	for k, s := range stations {
		total := s.table.Total()
		total.Fates[api.Pending] = 0
		if total.Taken != s.taken || total.Fates != s.ended || s.ended[api.Delivered] < 10 || s.ended[api.Missed] < 10 || s.ended[api.Cancelled] < 10 {
			t.Errorf("node %d: %v; %d came, %v", k, total, s.taken, s.ended)
		}
	}
}
