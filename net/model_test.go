package net_test

import (
	"maps"
	"math/rand"
	"slices"
	"testing"

	"bellbuoy/accord"
	"bellbuoy/api"
	"bellbuoy/bus"
	"bellbuoy/count"
	"bellbuoy/net"
	"bellbuoy/slave"
	"bellbuoy/station"
)

// model is a network as chapter 30 says it, and what nodes had ahead of a bit.
type model struct {
	plant    api.Plant
	bus      *bus.Bus
	stations map[int]*station.Station // of those that are on
	left     map[int][]api.Outcome
	phases   []api.Phase
	wanted   []api.Frame
}

func modelOf(t *testing.T, p api.Plant) *model {
	t.Helper()
	m := &model{plant: p, stations: map[int]*station.Station{}, left: map[int][]api.Outcome{}, phases: make([]api.Phase, p.Nodes), wanted: make([]api.Frame, p.Nodes)}
	m.bus, _ = bus.New(p.Nodes)
	for k := range p.Nodes {
		m.begin(t, k)
	}
	return m
}

func (m *model) begin(t *testing.T, k int) {
	t.Helper()
	s, errno := station.New(m.plant, k)
	if errno != api.OK {
		t.Fatalf("New(%v, %d): %d", m.plant, k, errno)
	}
	m.stations[k] = s
}

func (m *model) step(ticks []int64, flips []int) (byte, []api.Note) {
	for k := range m.plant.Nodes { // 1
		m.phases[k] = m.bus.Phase(k)
		s := m.stations[k]
		if s == nil || m.phases[k] == api.Sending {
			continue
		}
		want, wants := s.Want()
		has, any := m.bus.Asked(k)
		if any && (!wants || want != has) {
			m.bus.Drop(k)
			any = false
		}
		if wants && !any {
			m.bus.Ask(k, want)
		}
		m.wanted[k] = want
	}
	bit, notes := m.bus.Step(flips...) // 2
	for k := range m.plant.Nodes {     // 3
		h := api.Happen{}
		for _, x := range notes {
			if x.Node == k {
				h = x.Happen
			}
		}
		own := m.plant.Beat.Nominal
		if k < len(ticks) {
			own = ticks[k]
		}
		if s := m.stations[k]; s != nil {
			s.Took(h, m.bus.Phase(k), own)
		}
	}
	return bit, notes
}

// whole is a network, the model of it, and what was told of it.
type whole struct {
	n      *net.Net
	m      *model
	calm   bool               // no bit is flipped
	lasts  bool               // nor does a node crash
	taken  []int              // how many frames each node took in, since it was switched on
	told   []map[int]api.Fate // what became of them
	clocks []int64
	ahead  []api.Note // what happened a bit ago
	counts map[string]int
}

// anyPlant is a network of a few nodes that send much.
func anyPlant(chance *rand.Rand) api.Plant {
	p := api.Plant{Nodes: 2 + chance.Intn(4), Length: 1 + chance.Int63n(3000), Room: 1 + chance.Intn(6), Beat: api.Beat{Nominal: 2 + chance.Int63n(30), Drift: chance.Int63n(2)}, Tune: chance.Int63n(api.MaxTune + 1), Period: 100 + chance.Intn(200), Step: 1 + chance.Intn(300)}
	p.Base = 2*p.Period + chance.Intn(300)
	for id := range 2 * p.Nodes {
		x := api.Stream{Id: id, Node: chance.Intn(p.Nodes), Class: api.Class(1 + chance.Intn(3)), Period: 1 << 20, Deadline: p.Length + chance.Int63n(40000), Slot: chance.Intn(4), Bytes: chance.Intn(9)}
		if chance.Intn(2) == 0 {
			x.Class = api.EdfClass
		}
		p.Streams = append(p.Streams, x)
	}
	return p
}

func (w *whole) begin(k int) { w.taken[k], w.told[k], w.clocks[k] = 0, map[int]api.Fate{}, 0 }

func TestAnyNetworks(t *testing.T) { // P30.1 to P30.6
	chance := rand.New(rand.NewSource(181))
	counts := map[string]int{}
	for i := range 80 {
		p := anyPlant(chance)
		w := &whole{n: made(t, p), m: modelOf(t, p), calm: i%2 == 0, lasts: i%4 == 0, taken: make([]int, p.Nodes), told: make([]map[int]api.Fate, p.Nodes), clocks: make([]int64, p.Nodes), counts: counts}
		for k := range p.Nodes {
			w.begin(k)
		}
		for range 2500 {
			w.calls(t, chance)
			w.bit(t, chance)
			w.alike(t)
		}
		for k := range p.Nodes {
			w.fates(t, k)
			w.oneFate(t, k)
		}
	}
	for _, name := range []string{"sent", "got", "words", "flips", "errors", "crashes", "restarts", "forgotten", "reads", "masters", "synced", "delivered", "cancelled", "crashed", "missed", "waiting", "full", "delivered calmly", "got calmly", "passive"} {
		if counts[name] < 50 {
			t.Errorf("%s: just %d", name, counts[name])
		}
	}
}

// bit is one bit, of both.
func (w *whole) bit(t *testing.T, chance *rand.Rand) {
	t.Helper()
	var ticks []int64
	for range chance.Intn(w.m.plant.Nodes + 2) {
		ticks = append(ticks, w.m.plant.Beat.Nominal+chance.Int63n(3)-1)
	}
	var flips []int
	for !w.calm && chance.Intn(60) == 0 {
		flips = append(flips, chance.Intn(w.m.plant.Nodes+1))
		w.counts["flips"]++
	}
	bit, notes := w.n.Step(ticks, flips...)
	want, wanted := w.m.step(ticks, flips)
	if bit != want || !slices.Equal(notes, wanted) {
		t.Fatalf("Step(%v, %v) = %d, %v; want %d, %v", ticks, flips, bit, notes, want, wanted)
	}
	if w.calm {
		w.truth(t, notes)
	}
	if w.calm && w.lasts {
		w.delivered(t, notes)
	}
	for _, x := range notes {
		if x.Happen.Bad != api.NoBad {
			w.counts["errors"]++
		}
		if _, ok := slave.Of(x.Happen.Frame); ok && x.Happen.Sent {
			w.counts["words"]++
		}
	}
	w.ahead = notes
}

// got is who got a frame, and which one.
func got(notes []api.Note) map[int]api.Frame {
	all := map[int]api.Frame{}
	for _, x := range notes {
		if x.Happen.Got {
			all[x.Node] = x.Happen.Frame
		}
	}
	return all
}

// truth fails unless what one node got all got that were hearing. (P30.6)
func (w *whole) truth(t *testing.T, notes []api.Note) {
	t.Helper()
	all := got(notes)
	for k, f := range all {
		for other, phase := range w.m.phases {
			if g, ok := all[other]; phase == api.Hearing && (!ok || f != g) {
				t.Fatalf("%d got %v; %d, which was hearing, got %v", k, f, other, g)
			}
		}
		w.counts["got calmly"]++
	}
}

// delivered fails unless what is sent was got by every other node the bit ahead, and is what was wanted when it began. (P30.5)
func (w *whole) delivered(t *testing.T, notes []api.Note) {
	t.Helper()
	for _, x := range notes {
		if !x.Happen.Sent {
			continue
		}
		all := got(w.ahead)
		_, self := all[x.Node]
		for _, f := range all {
			if f != x.Happen.Frame || len(all) != w.m.plant.Nodes-1 || self {
				t.Fatalf("%v is sent; a bit ahead it was got by %v", x, all)
			}
		}
		if len(all) == 0 || w.m.wanted[x.Node] != x.Happen.Frame {
			t.Fatalf("%v is sent; %v was wanted, and got by %v", x, w.m.wanted[x.Node], all)
		}
		w.counts["delivered calmly"]++
	}
}

// calls is what is done between two bits, to both.
func (w *whole) calls(t *testing.T, chance *rand.Rand) {
	t.Helper()
	k := chance.Intn(w.m.plant.Nodes)
	switch n := chance.Intn(400); {
	case n < 8:
		w.release(t, chance, k)
	case n < 10:
		w.cancel(t, chance, k)
	case n < 13:
		want, wanted := w.m.stations[k].Read()
		if got, ok := w.n.Read(k); got != want || ok != wanted {
			t.Fatalf("Read(%d) = %v, %v; want %v, %v", k, got, ok, want, wanted)
		} else if ok {
			w.counts["reads"]++
		}
	case n < 16:
		w.fates(t, k)
	case n < 17 && !w.lasts && (chance.Intn(3) == 0 || w.n.Alive(k)):
		w.crash(t, chance, k)
	case n < 20 && (!w.n.Alive(k) || chance.Intn(10) == 0):
		w.restart(t, k)
	}
}

func (w *whole) release(t *testing.T, chance *rand.Rand, k int) {
	t.Helper()
	id, data := chance.Intn(2*w.m.plant.Nodes+1), [8]byte{}
	for _, x := range w.m.plant.Streams {
		if x.Node == k && chance.Intn(2) == 0 {
			id = x.Id
		}
	}
	chance.Read(data[:])
	want, wanted := w.m.stations[k].Release(id, data)
	tag, errno := w.n.Release(k, id, data)
	if tag != want || errno != wanted {
		t.Fatalf("Release(%d, %d) = %d, %d; want %d, %d", k, id, tag, errno, want, wanted)
	}
	switch errno {
	case api.OK:
		w.taken[k]++
	case api.ErrFull:
		w.counts["full"]++
	}
}

func (w *whole) cancel(t *testing.T, chance *rand.Rand, k int) {
	t.Helper()
	tag := chance.Intn(w.taken[k]+2) - 1
	if l := w.n.Waits(k); len(l) > 0 && chance.Intn(2) == 0 {
		tag = l[chance.Intn(len(l))]
	}
	is(t, "Cancel", w.n.Cancel(k, tag), w.m.stations[k].Cancel(tag))
}

// crash is of a node; a crash leaves none that waits. (P30.3)
func (w *whole) crash(t *testing.T, chance *rand.Rand, k int) {
	t.Helper()
	want := w.m.bus.Crash(k)
	is(t, "Crash", w.n.Crash(k), want)
	if want != api.OK {
		return
	}
	w.m.stations[k].Crash()
	w.m.left[k] = w.m.stations[k].Fates()
	delete(w.m.stations, k)
	waits(t, w.n, k)
	w.clocks[k] = 0
	w.counts["crashes"]++
	if chance.Intn(3) == 0 {
		w.fates(t, k)
		w.oneFate(t, k)
	}
}

func (w *whole) restart(t *testing.T, k int) {
	t.Helper()
	want := w.m.bus.Restart(k)
	is(t, "Restart", w.n.Restart(k), want)
	if want != api.OK {
		return
	}
	if len(w.m.left[k]) > 0 {
		w.counts["forgotten"]++
	}
	delete(w.m.left, k)
	w.m.begin(t, k)
	w.begin(k)
	isNew(t, w.n, k)
	w.counts["restarts"]++
}

// fates asks both what became of a node's frames.
func (w *whole) fates(t *testing.T, k int) {
	t.Helper()
	l := append(w.m.left[k], w.m.stations[k].Fates()...)
	delete(w.m.left, k)
	fates(t, w.n, k, l...)
	for _, o := range l {
		if fate, twice := w.told[k][o.Tag]; twice || o.Tag < 0 || o.Tag >= w.taken[k] {
			t.Fatalf("%v, and %d", o, fate)
		}
		w.told[k][o.Tag] = o.Fate
		w.counts[map[api.Fate]string{api.Delivered: "delivered", api.Cancelled: "cancelled", api.Crashed: "crashed", api.Missed: "missed"}[o.Fate]]++
	}
}

// oneFate fails unless each frame that a node took in since it was switched on waits, or has just one fate. (P30.3)
func (w *whole) oneFate(t *testing.T, k int) {
	t.Helper()
	all := maps.Clone(w.told[k])
	for _, tag := range w.n.Waits(k) {
		if fate, also := all[tag]; also {
			t.Fatalf("%d waits, and %d became of it", tag, fate)
		}
		all[tag] = api.Pending
		w.counts["waiting"]++
	}
	if len(all) != w.taken[k] {
		t.Fatalf("%d of %d frames of node %d wait, or have a fate", len(all), w.taken[k], k)
	}
}

// alike fails unless both tell the same, and no clock fell. (P30.4)
func (w *whole) alike(t *testing.T) {
	t.Helper()
	var masters []int
	for k := range w.m.plant.Nodes {
		s := w.m.stations[k]
		stands(t, w.n, k, s.Time(), s.Synced(), count.Mode(w.m.bus.Counts(k)))
		waits(t, w.n, k, s.Waits()...)
		if w.n.Alive(k) != (s != nil) {
			t.Fatalf("node %d is on: %v", k, s != nil)
		}
		if s.Master() {
			masters = append(masters, k)
			w.counts["masters"]++
		}
		if s.Synced() {
			w.counts["synced"]++
		}
		if w.n.Mode(k) == api.Passive {
			w.counts["passive"]++
		}
		if w.n.Clock(k) < w.clocks[k] {
			t.Fatalf("the clock of node %d fell from %d to %d", k, w.clocks[k], w.n.Clock(k))
		}
		w.clocks[k] = w.n.Clock(k)
	}
	if !slices.Equal(w.n.Masters(), masters) || w.n.Time() != w.m.bus.Time() {
		t.Fatalf("Masters() = %v, Time() = %d; want %v, %d", w.n.Masters(), w.n.Time(), masters, w.m.bus.Time())
	}
	for _, x := range w.ahead {
		if x.Happen.Sent {
			w.counts["sent"]++
		}
		if x.Happen.Got {
			w.counts["got"]++
		}
	}
}

func TestClocksAgree(t *testing.T) { // E2 in a whole network: a slave is never further from its master than the bound, but for the bit that lies between that at which it gets a turn, and that at which this is sent
	chance := rand.New(rand.NewSource(182))
	for _, c := range []accord.Config{{Beat: api.Beat{Nominal: 100}}, {Beat: api.Beat{Nominal: 100, Drift: 1}, Tune: 16}, {Beat: api.Beat{Nominal: 100, Drift: 1}, Tune: api.MaxTune}, {Beat: api.Beat{Nominal: 20, Drift: 3}}, {Beat: api.Beat{Nominal: 1000}, Tune: 100}, {Beat: api.Beat{Nominal: 5000, Drift: 30}, Tune: 1000}, {Beat: api.Beat{Nominal: 1}, Tune: api.MaxTune}} {
		for _, period := range []int{300, 450, 999} {
			p := api.Plant{Nodes: 4, Length: 1, Room: 1, Beat: c.Beat, Tune: c.Tune, Base: 2 * period, Step: 200, Period: period}
			n := made(t, p)
			most, _ := accord.Bound(c, int64(period)+200) // behind a turn there are just those words, up to the end of what follows the next one
			ticks := make([]int64, p.Nodes)
			bias := chance.Perm(p.Nodes)
			for i := range 12000 {
				for k := range ticks { // some are always fast, or slow, and some are any way
					ticks[k] = c.Beat.Nominal + []int64{c.Beat.Drift, -c.Beat.Drift, chance.Int63n(2*c.Beat.Drift+1) - c.Beat.Drift, 0}[bias[k]]
				}
				n.Step(ticks)
				for k := 1; k < p.Nodes && i > 4*period+500; k++ { // each has followed for long enough to wait no more
					if apart := n.Clock(k) - n.Clock(0); !n.Synced(k) || apart > most+c.Beat.Nominal+c.Beat.Drift || -apart > most {
						t.Fatalf("%v: node %d is %d away from the master; the bound is %d", p, k, apart, most)
					}
				}
			}
		}
	}
}
