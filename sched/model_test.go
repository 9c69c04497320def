package sched_test

import (
	"math/rand"
	"slices"
	"testing"

	"bellbuoy/api"
	"bellbuoy/quant"
	"bellbuoy/sched"
)

// frame is one that was taken in.
type frame struct {
	tag   int
	job   api.Job
	post  api.Post // but for its identifier
	label api.Label
}

// model is a scheduler as chapter 28 says it: all frames that wait, in the order in which they came.
type model struct {
	own    []api.Stream
	length int64
	room   int
	epoch  int64
	taken  int
	list   []frame
	fates  []api.Outcome
}

// floor is a number of whole lengths that is not above now.
func floor(now, length int64) int64 {
	parts := now / length
	if now%length < 0 {
		parts--
	}
	return parts * length
}

func (m *model) label(x api.Stream, deadline int64) api.Label {
	l := api.Label{Class: x.Class, Slot: x.Slot, Stream: x.Id, Node: x.Node}
	if x.Class == api.EdfClass {
		l.Slot = int(max(0, min(255, floor(deadline-m.epoch, m.length)/m.length)))
	}
	return l
}

func (m *model) of(id int) (api.Stream, bool) {
	for _, x := range m.own {
		if x.Id == id {
			return x, true
		}
	}
	return api.Stream{}, false
}

func (m *model) release(id int, data [8]byte, now int64) (int, api.Errno) {
	x, ok := m.of(id)
	switch {
	case !ok:
		return -1, api.ErrNone
	case now < 0 || now > 1<<50:
		return -1, api.ErrRange
	case len(m.list) == m.room:
		return -1, api.ErrFull
	}
	f := frame{tag: m.taken, job: api.Job{Stream: id, Release: now, Deadline: now + x.Deadline, Cost: int64(80 + 10*x.Bytes)}, label: m.label(x, now+x.Deadline)}
	f.post = api.Post{Frame: api.Frame{Len: x.Bytes}, Tag: f.tag}
	for i := range x.Bytes {
		f.post.Frame.Data[i] = data[i]
	}
	m.list = append(m.list, f)
	m.taken++
	return f.tag, api.OK
}

// end is the end of all of which that holds; a list's order is that of tags.
func (m *model) end(fate api.Fate, now int64, ends func(f frame) bool) int {
	var left []frame
	many := 0
	for _, f := range m.list {
		if ends(f) {
			m.fates = append(m.fates, api.Outcome{Tag: f.tag, Fate: fate, At: now})
			many++
		} else {
			left = append(left, f)
		}
	}
	m.list = left
	return many
}

func (m *model) endOf(fate api.Fate, tag int, now int64) api.Errno {
	if m.end(fate, now, func(f frame) bool { return f.tag == tag }) == 0 {
		return api.ErrNone
	}
	return api.OK
}

func (m *model) promote(now int64) bool {
	if now < -1<<60 || now > 1<<60 || floor(now, m.length) == m.epoch {
		return false
	}
	m.epoch = floor(now, m.length)
	for i, f := range m.list {
		x, _ := m.of(f.job.Stream)
		m.list[i].label = m.label(x, f.job.Deadline)
	}
	return true
}

// head is the post of the first one: that of the least identifier, and of alike ones the one of the least tag.
func (m *model) head() (api.Post, bool) {
	best, found := api.Post{}, false
	for _, f := range m.list {
		p := f.post
		p.Frame.Id = post(f.label, 0, 0).Frame.Id
		if !found || p.Frame.Id.N < best.Frame.Id.N {
			best, found = p, true
		}
	}
	return best, found
}

// pair is a scheduler, and the model of it, and what was told of what became of frames.
type pair struct {
	s      *sched.Sched
	m      *model
	told   []api.Outcome
	jobs   map[int]api.Job
	passed map[int]bool // of which a Tick came with a time past their deadlines while they waited
}

// anyPair is one of a few streams, of a node that has most of them.
func anyPair(t *testing.T, chance *rand.Rand) *pair {
	t.Helper()
	p := &pair{m: &model{length: 1 + chance.Int63n(60), room: 1 + chance.Intn(12)}, jobs: map[int]api.Job{}, passed: map[int]bool{}}
	if chance.Intn(5) == 0 {
		p.m.room = api.MaxQueue - chance.Intn(2)
	}
	var all []api.Stream
	for _, id := range chance.Perm(9) {
		x := api.Stream{Id: id, Node: 4, Class: api.EdfClass, Period: 30000, Deadline: p.m.length + chance.Int63n(40)*p.m.length, Slot: chance.Intn(3), Bytes: chance.Intn(9)}
		if chance.Intn(4) == 0 {
			x.Deadline = p.m.length + chance.Int63n(29000)
		}
		if chance.Intn(4) == 0 {
			x.Class = []api.Class{api.DmClass, api.FixedClass}[chance.Intn(2)]
		}
		if chance.Intn(5) == 0 {
			x.Node = chance.Intn(32)
		}
		all = append(all, x)
	}
	for _, x := range all {
		if x.Node == 4 {
			p.m.own = append(p.m.own, x)
		}
	}
	s, errno := sched.New(4, all, p.m.length, p.m.room)
	if errno != api.OK {
		t.Fatalf("New(4, %v, %d, %d): %d", all, p.m.length, p.m.room, errno)
	}
	p.s = s
	return p
}

func TestAnyCalls(t *testing.T) { // P28.1 to P28.7
	chance := rand.New(rand.NewSource(161))
	counts, became := map[api.Errno]int{}, map[api.Fate]int{}
	for range 250 {
		p := anyPair(t, chance)
		clock := chance.Int63n(500)
		for range 150 {
			clock += chance.Int63n(2 * p.m.length)
			before := p.seen()
			errno, refused := p.step(t, chance, clock)
			counts[errno]++
			if refused && !p.seen().same(before) { // P28.7
				t.Fatalf("what was refused changed %v to %v", before, p.seen())
			}
			p.alike(t)
			p.ordered(t)
		}
		p.asked(t)
		p.oneFate(t, became)
	}
	for _, errno := range []api.Errno{api.OK, api.ErrRange, api.ErrNone, api.ErrFull} {
		if counts[errno] < 200 {
			t.Errorf("just %d answers of %d", counts[errno], errno)
		}
	}
	for _, fate := range []api.Fate{api.Pending, api.Delivered, api.Cancelled, api.Crashed, api.Missed} {
		if became[fate] < 200 {
			t.Errorf("just %d fates of %d", became[fate], fate)
		}
	}
}

// step is one call, of both: it fails unless they answer alike. It tells whether the call was refused.
func (p *pair) step(t *testing.T, chance *rand.Rand, clock int64) (api.Errno, bool) {
	t.Helper()
	tag, now := chance.Intn(p.m.taken+2)-1, clock
	if n := len(p.m.list); n > 0 && chance.Intn(2) == 0 {
		tag = p.m.list[chance.Intn(n)].tag
	}
	switch chance.Intn(14) {
	case 0:
		want := p.m.endOf(api.Cancelled, tag, now)
		ends(t, "Cancel", p.s.Cancel(tag, now), want)
		return want, want != api.OK
	case 1, 2:
		want := p.m.endOf(api.Delivered, tag, now)
		ends(t, "Sent", p.s.Sent(tag, now), want)
		return want, want != api.OK
	case 3, 4:
		return p.promote(t, chance, now)
	case 5, 6:
		return p.tick(t, chance, now)
	case 7:
		if chance.Intn(6) == 0 {
			p.m.end(api.Crashed, now, func(frame) bool { return true })
			p.s.Crash(now)
		}
	case 8:
		p.asked(t)
	default:
		return p.release(t, chance, now)
	}
	return api.OK, false
}

func (p *pair) release(t *testing.T, chance *rand.Rand, now int64) (api.Errno, bool) {
	t.Helper()
	if chance.Intn(12) == 0 {
		now = noTimes[chance.Intn(len(noTimes))]
	} else if chance.Intn(12) == 0 {
		now = 1<<50 - chance.Int63n(2)
	}
	id, data := chance.Intn(10)-chance.Intn(2), [8]byte{}
	for i := range data {
		data[i] = byte(chance.Intn(256))
	}
	want, wanted := p.m.release(id, data, now)
	if got, errno := p.s.Release(id, data, now); got != want || errno != wanted {
		t.Fatalf("Release(%d, .., %d) = %d, %d; want %d, %d", id, now, got, errno, want, wanted)
	}
	if wanted == api.OK {
		p.jobs[want] = p.m.list[len(p.m.list)-1].job
	}
	return wanted, wanted != api.OK
}

func (p *pair) promote(t *testing.T, chance *rand.Rand, now int64) (api.Errno, bool) {
	t.Helper()
	switch chance.Intn(8) {
	case 0:
		now = noEpochs[chance.Intn(len(noEpochs))]
	case 1:
		now -= chance.Int63n(40 * p.m.length)
	case 2:
		now = p.m.epoch + chance.Int63n(p.m.length)
	case 3:
		now = []int64{1 << 50, -1 << 50, 1 << 60}[chance.Intn(3)]
	}
	want := p.m.promote(now)
	if got := p.s.Promote(now); got != want {
		t.Fatalf("Promote(%d) = %v", now, got)
	}
	return api.OK, !want
}

func (p *pair) tick(t *testing.T, chance *rand.Rand, now int64) (api.Errno, bool) {
	t.Helper()
	if n := len(p.m.list); n > 0 && chance.Intn(3) == 0 { // at a deadline, or a bit behind it
		now = p.m.list[chance.Intn(n)].job.Deadline + chance.Int63n(2)
	}
	for _, tag := range p.s.Waits() {
		if j, _ := p.s.Job(tag); j.Deadline < now {
			p.passed[tag] = true
		}
	}
	want := p.m.end(api.Missed, now, func(f frame) bool { return f.job.Deadline < now })
	if got := p.s.Tick(now); got != want {
		t.Fatalf("Tick(%d) = %d; want %d", now, got, want)
	}
	return api.OK, want == 0
}

// asked asks both what became of frames.
func (p *pair) asked(t *testing.T) {
	t.Helper()
	fates(t, p.s, p.m.fates...)
	p.told = append(p.told, p.m.fates...)
	p.m.fates = nil
}

// view is all that is told of what waits.
type view struct {
	epoch  int64
	head   api.Post
	tags   []int
	jobs   []api.Job
	labels []api.Label
}

func (p *pair) seen() view {
	v := view{epoch: p.s.Epoch(), tags: p.s.Waits()}
	v.head, _ = p.s.Head()
	for _, tag := range v.tags {
		j, _ := p.s.Job(tag)
		l, _ := p.s.Label(tag)
		v.jobs, v.labels = append(v.jobs, j), append(v.labels, l)
	}
	return v
}

func (v view) same(other view) bool {
	return v.epoch == other.epoch && v.head == other.head && slices.Equal(v.tags, other.tags) && slices.Equal(v.jobs, other.jobs) && slices.Equal(v.labels, other.labels)
}

// alike fails unless both tell the same of what waits.
func (p *pair) alike(t *testing.T) {
	t.Helper()
	want := view{epoch: p.m.epoch}
	for _, f := range p.m.list {
		want.tags, want.jobs, want.labels = append(want.tags, f.tag), append(want.jobs, f.job), append(want.labels, f.label)
	}
	head, ok := p.m.head()
	want.head = head
	if got := p.seen(); !got.same(want) {
		t.Fatalf("%v; want %v", got, want)
	}
	if _, found := p.s.Head(); found != ok {
		t.Fatalf("a Head: %v", found)
	}
}

// ordered fails unless the Head is of the least class, and, if it has a deadline that is not far, none is due a slot ahead of it, or more. (P28.6)
func (p *pair) ordered(t *testing.T) {
	t.Helper()
	head, ok := p.s.Head()
	if !ok {
		return
	}
	first, _ := p.s.Label(head.Tag)
	own, _ := p.s.Job(head.Tag)
	near := first.Class == api.EdfClass && !quant.Far(own.Deadline, p.s.Epoch(), p.m.length)
	for _, tag := range p.s.Waits() {
		l, _ := p.s.Label(tag)
		j, _ := p.s.Job(tag)
		if l.Class < first.Class {
			t.Fatalf("%d, of class %d, is ahead of %d, of %d", head.Tag, first.Class, tag, l.Class)
		}
		if near && l.Class == api.EdfClass && j.Deadline >= p.s.Epoch() && j.Deadline+p.m.length <= own.Deadline {
			t.Fatalf("%d, due at %d, is ahead of %d, due at %d", head.Tag, own.Deadline, tag, j.Deadline)
		}
	}
}

// oneFate fails unless each frame that was taken in waits, or has just one fate (P28.4), and that is that it was missed just if it was (P28.5).
func (p *pair) oneFate(t *testing.T, became map[api.Fate]int) {
	t.Helper()
	is := map[int]api.Fate{}
	for _, o := range p.told {
		if _, twice := is[o.Tag]; twice || o.Fate == api.Pending {
			t.Fatalf("%v, and %d", o, is[o.Tag])
		}
		is[o.Tag] = o.Fate
		if missed := o.Fate == api.Missed; missed != p.passed[o.Tag] || missed && o.At <= p.jobs[o.Tag].Deadline {
			t.Fatalf("%v; past its deadline: %v", o, p.passed[o.Tag])
		}
	}
	for _, tag := range p.s.Waits() {
		if _, twice := is[tag]; twice || p.passed[tag] {
			t.Fatalf("%d waits; past its deadline: %v", tag, p.passed[tag])
		}
		is[tag] = api.Pending
	}
	if len(is) != p.m.taken || len(p.jobs) != p.m.taken {
		t.Fatalf("%d of %d frames wait, or have a fate", len(is), p.m.taken)
	}
	for _, fate := range is {
		became[fate]++
	}
}
