package station_test

import (
	"math/rand"
	"slices"
	"testing"

	"bellbuoy/api"
	"bellbuoy/clock"
	"bellbuoy/ctrl"
	"bellbuoy/osc"
	"bellbuoy/rank"
	"bellbuoy/rate"
	"bellbuoy/sched"
	"bellbuoy/slave"
	"bellbuoy/station"
)

// model is a station as chapter 29 says it, part by part, and step by step.
type model struct {
	rank   int
	beat   api.Beat
	ticks  *osc.Osc
	clock  *clock.Clock
	rates  *rate.Estimator
	words  *slave.Match
	turns  *rank.Node
	round  int
	plan   *sched.Sched
	posts  *ctrl.Ctrl
	boxes  map[int]api.Post // what was submitted last, by tags
	got    []api.Stamped
	lost   int
	synced bool
}

func modelOf(t *testing.T, p api.Plant, k int) *model {
	t.Helper()
	m := &model{rank: k, beat: p.Beat, clock: clock.New(), words: slave.New(), boxes: map[int]api.Post{}}
	var errno [5]api.Errno
	m.ticks, errno[0] = osc.New(p.Beat)
	m.rates, errno[1] = rate.New(p.Tune, 3)
	m.turns, errno[2] = rank.New(rank.Config{Base: p.Base, Step: p.Step, Period: p.Period}, k)
	m.plan, errno[3] = sched.New(k, p.Streams, p.Length, p.Room)
	m.posts, errno[4] = ctrl.New(3, 16)
	if errno != [5]api.Errno{} {
		t.Fatalf("%v can't be: %v", p, errno)
	}
	return m
}

func (m *model) submit(p api.Post) {
	if _, errno := m.posts.Submit(p); errno == api.OK {
		m.boxes[p.Tag] = p
	}
}

func (m *model) say(t *testing.T, tag int, w slave.Word) {
	m.submit(api.Post{Frame: word(t, w), Tag: tag})
}

func (m *model) took(t *testing.T, h api.Happen, p api.Phase, ticks int64) {
	if m.ticks.Step(ticks) != api.OK { // 1
		m.ticks.Step(m.beat.Nominal)
	}
	now, _ := m.clock.Read(m.ticks.Count())
	m.posts.Took(h, p, m.ticks.Count()) // 2
	for _, o := range m.posts.Fates() { // 3
		if o.Fate == api.Delivered && o.Tag >= 0 {
			m.plan.Sent(o.Tag, now)
		}
		if o.Fate == api.Delivered && o.Tag == api.TurnTag {
			m.say(t, api.FollowTag, slave.Word{Follow: true, Rank: m.rank, Round: m.round, Time: now % (1 << 48)})
		}
	}
	var heard []int
	for { // 4
		x, ok := m.posts.Read()
		if !ok {
			break
		}
		w, is := slave.Of(x.Frame)
		switch {
		case is && w.Rank != m.rank:
			m.hear(w, x.To)
			if !w.Follow {
				heard = append(heard, w.Rank)
			}
		case len(m.got) < 16:
			m.got = append(m.got, x)
		default:
			m.lost++
		}
	}
	if m.turns.Tick(heard...) { // 5
		m.round++
		if m.round == 65536 {
			m.round = 0
		}
		m.say(t, api.TurnTag, slave.Word{Rank: m.rank, Round: m.round})
	}
	m.plan.Tick(now) // 6
	m.plan.Promote(now)
	m.feed() // 7
}

func (m *model) hear(w slave.Word, to int64) {
	here, there, ok := m.words.Hear(w, to)
	if !ok || m.turns.Master() {
		return
	}
	if had, ok := m.clock.Look(here); ok {
		m.rates.Add(rate.Sample{There: there, Here: here})
		m.clock.Tune(m.ticks.Count(), m.rates.Rate())
		m.clock.Shift(m.ticks.Count(), there-had)
		m.synced = true
	}
}

func (m *model) feed() {
	head, ok := m.plan.Head()
	busy, sending := m.posts.Busy()
	for _, tag := range m.posts.Tags() {
		if tag >= 0 && !(sending && busy == tag) && !(ok && m.boxes[tag] == head) {
			m.posts.Abort(tag)
		}
	}
	if own := func(tag int) bool { return tag >= 0 }; ok && !slices.ContainsFunc(m.posts.Tags(), own) {
		m.submit(head)
	}
}

// pair is a station, and the model of it, and what was told.
type pair struct {
	s      *station.Station
	m      *model
	taken  int
	told   map[int]api.Outcome
	time   int64
	counts map[string]int
}

// anyPlant is a network of four nodes, in which much happens within few bits.
func anyPlant(chance *rand.Rand) api.Plant {
	p := plant()
	p.Beat = api.Beat{Nominal: 1 + chance.Int63n(20)}
	p.Base, p.Step, p.Period, p.Room = 5+chance.Intn(100), 1+chance.Intn(40), 1+chance.Intn(5), 1+chance.Intn(6)
	p.Length, p.Tune = 1+chance.Int63n(200), chance.Int63n(api.MaxTune+1)
	for i := range p.Streams {
		x := &p.Streams[i]
		if chance.Intn(3) == 0 {
			x.Node = 1
		}
		if x.Class == api.EdfClass && chance.Intn(2) == 0 {
			x.Deadline = p.Length + chance.Int63n(8*p.Length)
		}
	}
	return p
}

// anyFrame is a word of a few, or something else.
func (p *pair) anyFrame(t *testing.T, chance *rand.Rand) api.Frame {
	t.Helper()
	times := []int64{0, p.s.Time(), p.s.Time() + chance.Int63n(400), 1<<48 - 1, chance.Int63n(p.s.Time() + 100)}
	if chance.Intn(30) > 0 {
		times = times[1:3]
	}
	switch chance.Intn(6) {
	case 0, 1:
		return word(t, turn(chance.Intn(5), chance.Intn(2)))
	case 2, 3:
		if rank, number, ok := p.m.words.Waits(); ok && chance.Intn(3) > 0 {
			return word(t, follow(rank, number, times[chance.Intn(len(times))]&(1<<48-1)))
		}
		return word(t, follow(chance.Intn(5), chance.Intn(2), times[chance.Intn(len(times))]&(1<<48-1)))
	case 4:
		return api.Frame{Id: api.Ident{N: chance.Uint32() >> chance.Intn(32), Ext: chance.Intn(2) == 0}, Len: chance.Intn(12) - 2, Remote: chance.Intn(5) == 0}
	}
	return labelled(api.EdfClass, chance.Intn(256), chance.Intn(12), chance.Intn(4), chance.Intn(9))
}

// anyHappen is what a bit brings that could, mostly.
func (p *pair) anyHappen(t *testing.T, chance *rand.Rand) (api.Happen, api.Phase) {
	t.Helper()
	h, phase := api.Happen{}, api.Phase(chance.Intn(10))
	_, sending := p.m.posts.Busy()
	switch n := chance.Intn(12); {
	case n == 0:
		h = api.Happen{Began: chance.Intn(2) == 0, Lost: chance.Intn(2) == 0, Sent: chance.Intn(2) == 0, Got: chance.Intn(2) == 0, Bad: api.Bad(chance.Intn(9) - 1)}
		h.Frame, phase = p.anyFrame(t, chance), api.Phase(chance.Intn(14)-2)
	case n < 4 && !sending:
		h.Began, phase = true, api.Sending
	case n == 4 && sending:
		h.Lost, phase = true, api.Hearing
	case n == 5 && sending:
		h.Bad, phase = api.Bad(1+chance.Intn(5)), api.Flagging
	case n < 8 && sending:
		h.Sent, phase = true, api.Pausing
	case n < 9:
		h.Got, h.Frame = true, p.anyFrame(t, chance)
	}
	return h, phase
}

// anyTicks are about as many as a bit has, mostly.
func anyTicks(chance *rand.Rand, nominal int64) int64 {
	switch chance.Intn(30) {
	case 0:
		return []int64{-1, 1 << 62, api.MaxInc + 1, -1 << 63, 0}[chance.Intn(5)]
	case 1:
		return chance.Int63n(500)
	}
	return max(0, nominal+chance.Int63n(3)-1)
}

func TestAnyBits(t *testing.T) { // P29.1 to P29.5
	chance := rand.New(rand.NewSource(171))
	counts := map[string]int{}
	for range 500 {
		plant := anyPlant(chance)
		k := chance.Intn(2)
		p := &pair{s: made(t, plant, k), m: modelOf(t, plant, k), told: map[int]api.Outcome{}, counts: counts}
		for range 400 {
			p.step(t, chance)
			p.alike(t)
			p.wanted(t)
			if p.s.Time() < p.time { // P29.3
				t.Fatalf("the time fell from %d to %d", p.time, p.s.Time())
			}
			p.time = p.s.Time()
		}
		p.fates(t)
		p.oneFate(t)
		counts["lost"] += p.m.lost
	}
	for _, name := range []string{"head", "sent", "word", "lost", "synced", "master", "delivered", "cancelled", "crashed", "missed", "waiting", "read"} {
		if counts[name] < 100 {
			t.Errorf("%s: just %d", name, counts[name])
		}
	}
}

// step is one call, of both.
func (p *pair) step(t *testing.T, chance *rand.Rand) {
	t.Helper()
	switch n := chance.Intn(40); {
	case n < 3:
		id, data := chance.Intn(11)-1, [8]byte{}
		chance.Read(data[:])
		tag, errno := p.s.Release(id, data)
		want, wanted := p.m.plan.Release(id, data, p.m.clock.Last())
		p.m.feed()
		if tag != want || errno != wanted {
			t.Fatalf("Release(%d) = %d, %d; want %d, %d", id, tag, errno, want, wanted)
		}
		if errno == api.OK {
			p.taken++
		}
	case n < 4:
		tag := chance.Intn(p.taken+2) - 1
		if l := p.s.Waits(); len(l) > 0 && chance.Intn(2) == 0 {
			tag = l[chance.Intn(len(l))]
		}
		want := p.m.plan.Cancel(tag, p.m.clock.Last())
		p.m.feed()
		cancels(t, p.s, tag, want)
	case n < 5:
		p.fates(t)
	case n < 6:
		p.reads(t, chance.Intn(3))
	case n < 7 && chance.Intn(4) == 0:
		p.s.Crash()
		p.m.plan.Crash(p.m.clock.Last())
		p.m.feed()
	default:
		h, phase := p.anyHappen(t, chance)
		ticks := anyTicks(chance, p.m.beat.Nominal)
		p.s.Took(h, phase, ticks)
		p.m.took(t, h, phase, ticks)
	}
}

// fates asks both what became of frames.
func (p *pair) fates(t *testing.T) {
	t.Helper()
	l := p.m.plan.Fates()
	fates(t, p.s, l...)
	for _, o := range l {
		if _, twice := p.told[o.Tag]; twice || o.Tag < 0 || o.Tag >= p.taken {
			t.Fatalf("%v behind %v", o, p.told[o.Tag])
		}
		p.told[o.Tag] = o
		p.counts[map[api.Fate]string{api.Delivered: "delivered", api.Cancelled: "cancelled", api.Crashed: "crashed", api.Missed: "missed"}[o.Fate]]++
	}
}

// oneFate fails unless each frame that was taken in waits, or has just one fate. (P29.4)
func (p *pair) oneFate(t *testing.T) {
	t.Helper()
	for _, tag := range p.s.Waits() {
		if o, also := p.told[tag]; also {
			t.Fatalf("%v waits", o)
		}
		p.told[tag] = api.Outcome{Tag: tag}
		p.counts["waiting"]++
	}
	if len(p.told) != p.taken {
		t.Fatalf("%d of %d frames wait, or have a fate", len(p.told), p.taken)
	}
}

func (p *pair) reads(t *testing.T, many int) {
	t.Helper()
	for range many {
		var want api.Stamped
		ok := len(p.m.got) > 0
		if ok {
			want, p.m.got = p.m.got[0], p.m.got[1:]
			p.counts["read"]++
		}
		if got, is := p.s.Read(); got != want || is != ok {
			t.Fatalf("Read() = %v, %v; want %v, %v", got, is, want, ok)
		}
	}
}

// alike fails unless both tell the same.
func (p *pair) alike(t *testing.T) {
	t.Helper()
	stands(t, p.s, p.m.clock.Last(), p.m.ticks.Count(), p.m.synced)
	if p.s.Master() != p.m.turns.Master() {
		t.Fatalf("master: %v", p.s.Master())
	}
	if got, want := p.s.Waits(), p.m.plan.Waits(); !slices.Equal(got, want) {
		t.Fatalf("Waits() = %v; want %v", got, want)
	}
	for tag := -3; tag <= p.taken; tag++ {
		got, ok := p.s.Job(tag)
		if want, is := p.m.plan.Job(tag); got != want || ok != is {
			t.Fatalf("Job(%d) = %v, %v; want %v, %v", tag, got, ok, want, is)
		}
	}
	if p.m.synced {
		p.counts["synced"]++
	}
	if p.m.turns.Master() {
		p.counts["master"]++
	}
	got, ok := p.s.Want()
	if want, is := p.m.posts.Want(); got != want || ok != is {
		t.Fatalf("Want() = %v, %v; want %v, %v", got, ok, want, is)
	}
}

// wanted fails unless what it wants next is what the scheduler has first, is being sent, or is a word of its own rank. (P29.5)
func (p *pair) wanted(t *testing.T) {
	t.Helper()
	f, ok := p.s.Want()
	if !ok {
		return
	}
	head, _ := p.m.plan.Head()
	busy, sending := p.m.posts.Busy()
	w, is := slave.Of(f)
	switch {
	case f == head.Frame:
		p.counts["head"]++
	case sending && f == p.m.boxes[busy].Frame:
		p.counts["sent"]++
	case is && w.Rank == p.m.rank:
		p.counts["word"]++
	default:
		t.Fatalf("it wants %v; the first one is %v, %v is being sent: %v", f, head, p.m.boxes[busy], sending)
	}
}
