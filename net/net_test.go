package net_test

import (
	"math"
	"slices"
	"testing"

	"bellbuoy/api"
	"bellbuoy/net"
	"bellbuoy/slave"
	"bellbuoy/station"
	"bellbuoy/wire"
)

const nominal = 10

// full is bytes of which none is 0.
var full = [8]byte{1, 2, 3, 4, 5, 6, 7, 255}

// plant is a network of three nodes, in which nobody is master for long.
func plant() api.Plant {
	return api.Plant{
		Nodes: 3,
		Streams: []api.Stream{
			{Id: 5, Node: 1, Class: api.FixedClass, Period: 90000, Deadline: 80000, Slot: 7, Bytes: 0},
			{Id: 9, Node: 2, Class: api.EdfClass, Period: 90000, Deadline: 50000, Bytes: 8},
			{Id: 3, Node: 1, Class: api.EdfClass, Period: 90000, Deadline: 50000, Bytes: 8},
			{Id: 4, Node: 0, Class: api.DmClass, Period: 90000, Deadline: 80000, Slot: 2, Bytes: 3},
		},
		Length: 1000, Room: 3, Beat: api.Beat{Nominal: nominal, Drift: 1}, Tune: 100, Base: 10000, Step: 100, Period: 800,
	}
}

func changed(change func(p *api.Plant)) api.Plant {
	p := plant()
	change(&p)
	return p
}

// turning is a network in which much is told of turns.
func turning() api.Plant {
	return changed(func(p *api.Plant) { p.Base, p.Period, p.Step = 900, 400, 200 })
}

func made(t *testing.T, p api.Plant) *net.Net {
	t.Helper()
	n, errno := net.New(p)
	if n == nil || errno != api.OK {
		t.Fatalf("New(%v) = %v, %d", p, n, errno)
	}
	return n
}

// bits lets so many go by, and answers all that happened, with the bit at which.
func bits(n *net.Net, many int) []api.Entry {
	var all []api.Entry
	for range many {
		at := n.Time()
		_, notes := n.Step(nil)
		for _, x := range notes {
			all = append(all, api.Entry{At: at, Note: x})
		}
	}
	return all
}

// labelled is the frame of a label, as chapter 23 has its identifier.
func labelled(class api.Class, slot, stream, node, bytes int) api.Frame {
	id := (((uint32(class)<<8|uint32(slot))<<11|uint32(stream))<<5 | uint32(node)) << 3
	f := api.Frame{Id: api.Ident{Ext: true, N: id}, Len: bytes}
	copy(f.Data[:bytes], full[:])
	return f
}

// Those of the network's streams, taken in at first.
var (
	three = labelled(api.EdfClass, 50, 3, 1, 8)
	nine  = labelled(api.EdfClass, 50, 9, 2, 8)
	four  = labelled(api.DmClass, 2, 4, 0, 3)
	five  = labelled(api.FixedClass, 7, 5, 1, 0)
)

// places are such as no network has.
var places = []int{-1, 3, 31, 32, 1 << 32, 1<<32 + 1, math.MaxInt, math.MinInt}

func releases(t *testing.T, n *net.Net, k, id, want int) {
	t.Helper()
	if tag, errno := n.Release(k, id, full); tag != want || errno != api.OK {
		t.Fatalf("Release(%d, %d) = %d, %d; want %d", k, id, tag, errno, want)
	}
}

func refuses(t *testing.T, n *net.Net, k, id int, want api.Errno) {
	t.Helper()
	if tag, errno := n.Release(k, id, full); tag != -1 || errno != want {
		t.Fatalf("Release(%d, %d) = %d, %d; want %d", k, id, tag, errno, want)
	}
}

// is fails unless a call answers that error.
func is(t *testing.T, name string, errno, want api.Errno) {
	t.Helper()
	if errno != want {
		t.Fatalf("%s = %d; want %d", name, errno, want)
	}
}

// fates fails unless just this became of a node's frames since it was asked last.
func fates(t *testing.T, n *net.Net, k int, want ...api.Outcome) {
	t.Helper()
	if got := n.Fates(k); !slices.Equal(got, want) {
		t.Fatalf("Fates(%d) = %v; want %v", k, got, want)
	}
	if got := n.Fates(k); len(got) != 0 {
		t.Fatalf("Fates(%d) = %v, when it is asked twice", k, got)
	}
}

func waits(t *testing.T, n *net.Net, k int, want ...int) {
	t.Helper()
	if got := n.Waits(k); !slices.Equal(got, want) {
		t.Fatalf("Waits(%d) = %v; want %v", k, got, want)
	}
}

// reads fails unless a node reads these frames, in that order, and nothing more.
func reads(t *testing.T, n *net.Net, k int, want ...api.Stamped) {
	t.Helper()
	for _, x := range want {
		if got, ok := n.Read(k); got != x || !ok {
			t.Fatalf("Read(%d) = %v, %v; want %v", k, got, ok, x)
		}
	}
	if got, ok := n.Read(k); got != (api.Stamped{}) || ok {
		t.Fatalf("Read(%d) = %v, %v", k, got, ok)
	}
}

// happens fails unless just that happened.
func happens(t *testing.T, got []api.Entry, want ...api.Entry) {
	t.Helper()
	if !slices.Equal(got, want) {
		t.Fatalf("it happened %v; want %v", got, want)
	}
}

// goes is what happens without a flip if a node's frame is sent, from a bit on, and no other node has one: all of those hear it.
func goes(from, k int, f api.Frame, others ...int) []api.Entry {
	end := from + wire.Long(f) - 1
	list := []api.Entry{{At: from, Note: api.Note{Node: k, Happen: api.Happen{Began: true}}}}
	for _, other := range others {
		list = append(list, api.Entry{At: end - 1, Note: api.Note{Node: other, Happen: api.Happen{Got: true, Frame: f}}})
	}
	return append(list, api.Entry{At: end, Note: api.Note{Node: k, Happen: api.Happen{Sent: true, Frame: f}}})
}

func TestNew(t *testing.T) { // P30.1: station.Check's error; P3
	for _, p := range []api.Plant{
		plant(), turning(), {}, changed(func(p *api.Plant) { p.Nodes = 1 }), changed(func(p *api.Plant) { p.Nodes = 2 }), changed(func(p *api.Plant) { p.Nodes = api.MaxNodes }), changed(func(p *api.Plant) { p.Nodes = api.MaxNodes + 1 }), changed(func(p *api.Plant) { p.Nodes = math.MaxInt }), changed(func(p *api.Plant) { p.Nodes = math.MinInt }),
		changed(func(p *api.Plant) { p.Room = 0 }), changed(func(p *api.Plant) { p.Tune = -1 }), changed(func(p *api.Plant) { p.Beat.Drift = 10 }), changed(func(p *api.Plant) { p.Step = 0 }), changed(func(p *api.Plant) { p.Length = 0 }), changed(func(p *api.Plant) { p.Length = 60000 }),
		changed(func(p *api.Plant) { p.Streams[0].Class = 0 }), changed(func(p *api.Plant) { p.Streams[3].Bytes = 9 }), changed(func(p *api.Plant) { p.Streams[3].Id = 9 }), changed(func(p *api.Plant) { p.Streams[0].Node = 3 }), changed(func(p *api.Plant) { p.Streams = nil }),
		changed(func(p *api.Plant) { p.Streams = make([]api.Stream, api.MaxStreams+1) }),
	} {
		given, want := slices.Clone(p.Streams), station.Check(p)
		n, errno := net.New(p)
		if (n != nil) != (want == api.OK) || errno != want || !slices.Equal(p.Streams, given) {
			t.Errorf("New(%v) = %v, %d; want %d", p, n, errno, want)
		}
		for k := range p.Nodes {
			if want != api.OK {
				break
			}
			isNew(t, n, k)
		}
	}
}

// isNew fails unless a node has just been switched on.
func isNew(t *testing.T, n *net.Net, k int) {
	t.Helper()
	if !n.Alive(k) {
		t.Fatalf("node %d is off", k)
	}
	stands(t, n, k, 0, false, api.Active)
	waits(t, n, k)
	reads(t, n, k)
	fates(t, n, k)
	if slices.Contains(n.Masters(), k) {
		t.Fatalf("node %d is master", k)
	}
	is(t, "Cancel", n.Cancel(k, 0), api.ErrNone)
}

func stands(t *testing.T, n *net.Net, k int, clock int64, synced bool, mode api.Mode) {
	t.Helper()
	if n.Clock(k) != clock || n.Synced(k) != synced || n.Mode(k) != mode {
		t.Fatalf("node %d: clock %d, synced: %v, mode %d; want %d, %v, %d", k, n.Clock(k), n.Synced(k), n.Mode(k), clock, synced, mode)
	}
}

// isNone fails unless a node that is off, or none, has nothing, and can nothing.
func isNone(t *testing.T, n *net.Net, k int, restart, crash api.Errno) {
	t.Helper()
	if n.Alive(k) || slices.Contains(n.Masters(), k) {
		t.Fatalf("node %d is on", k)
	}
	stands(t, n, k, 0, false, api.Active)
	waits(t, n, k)
	fates(t, n, k)
	reads(t, n, k)
	for _, id := range []int{3, 4, 5, 9, 0, -1, math.MaxInt} {
		refuses(t, n, k, id, api.ErrNone)
	}
	for _, tag := range []int{0, 1, -1, api.TurnTag, math.MinInt} {
		is(t, "Cancel", n.Cancel(k, tag), api.ErrNone)
	}
	is(t, "Crash", n.Crash(k), crash)
	if restart != api.OK {
		is(t, "Restart", n.Restart(k), restart)
	}
}

func TestNil(t *testing.T) { // P30.2
	for _, n := range []*net.Net{nil, {}} { // P1: nor does one that New did not make have anything
		for _, ticks := range [][]int64{nil, {}, {1, 2}, {-1}} {
			for _, flips := range [][]int{nil, {0}, {0, 1, -1, math.MaxInt}} {
				if bit, notes := n.Step(ticks, flips...); bit != 1 || len(notes) != 0 {
					t.Errorf("Step(%v, %v) = %d, %v", ticks, flips, bit, notes)
				}
			}
		}
		for _, k := range append(places, 0, 1, 2) {
			isNone(t, n, k, api.ErrNone, api.ErrNone)
		}
		if len(n.Masters()) != 0 || n.Time() != 0 {
			t.Errorf("Masters() = %v, Time() = %d", n.Masters(), n.Time())
		}
	}
}

func TestNoNode(t *testing.T) { // P30.1, P30.2
	n := made(t, turning())
	releases(t, n, 1, 3, 0)
	for range 30 {
		for _, k := range places {
			isNone(t, n, k, api.ErrNone, api.ErrNone)
			n.Step([]int64{10, 10, 10, 4, 5, 6}, k) // nobody is flipped
		}
	}
	fates(t, n, 1, api.Outcome{Tag: 0, Fate: api.Delivered, At: nominal * int64(11+wire.Long(three))})
}

func TestStreamsAreItsOwn(t *testing.T) { // P3: a network does not change with what New was given, nor do nodes that are switched on later
	p := plant()
	n := made(t, p)
	for i := range p.Streams {
		p.Streams[i] = api.Stream{}
	}
	is(t, "Crash", n.Crash(2), api.OK)
	is(t, "Restart", n.Restart(2), api.OK)
	releases(t, n, 1, 3, 0)
	releases(t, n, 2, 9, 0)
}

func TestStep(t *testing.T) { // P30.1: what bus.Step answers: a frame goes, and the next one behind it
	n := made(t, plant())
	happens(t, bits(n, 20))
	releases(t, n, 1, 3, 0)
	happens(t, bits(n, 200), goes(20, 1, labelled(api.EdfClass, 50, 3, 1, 8), 0, 2)...)
	if n.Time() != 220 {
		t.Errorf("Time() = %d", n.Time())
	}
	releases(t, n, 0, 4, 0)
	releases(t, n, 1, 5, 1)
	happens(t, bits(n, 1), api.Entry{At: 220, Note: api.Note{Node: 0, Happen: api.Happen{Began: true}}}, api.Entry{At: 220, Note: api.Note{Node: 1, Happen: api.Happen{Began: true}}})
	happens(t, bits(n, 3), api.Entry{At: 222, Note: api.Note{Node: 1, Happen: api.Happen{Lost: true}}}) // 10 wins over 11
	next := 220 + wire.Long(four) + 3
	l := bits(n, 300)
	happens(t, l[:3], api.Entry{At: next - 5, Note: api.Note{Node: 1, Happen: api.Happen{Got: true, Frame: four}}}, api.Entry{At: next - 5, Note: api.Note{Node: 2, Happen: api.Happen{Got: true, Frame: four}}}, api.Entry{At: next - 4, Note: api.Note{Node: 0, Happen: api.Happen{Sent: true, Frame: four}}})
	happens(t, l[3:], goes(next, 1, five, 0, 2)...)
	fates(t, n, 0, api.Outcome{Tag: 0, Fate: api.Delivered, At: nominal * int64(next-3)})
	fates(t, n, 1, api.Outcome{Tag: 0, Fate: api.Delivered, At: nominal * int64(20+wire.Long(three))}, api.Outcome{Tag: 1, Fate: api.Delivered, At: nominal * int64(next+wire.Long(five))})
	for k := range 3 {
		waits(t, n, k)
	}
}

func TestWire(t *testing.T) { // P30.1: what is on the wire is what a frame has there
	n := made(t, plant())
	releases(t, n, 1, 3, 0)
	want := slices.Repeat([]byte{1}, 11)
	whole := wire.Encode(three)
	whole[len(whole)-9] = 0 // the slot: somebody answers
	want = append(append(want, whole...), 1, 1, 1, 1)
	var got []byte
	for range want {
		bit, _ := n.Step(nil)
		got = append(got, bit)
	}
	if !slices.Equal(got, want) {
		t.Errorf("on the wire is %v; want %v", got, want)
	}
}

func TestFlips(t *testing.T) { // P30.1: flips as many as one likes, each node once
	n := made(t, plant())
	releases(t, n, 1, 3, 0)
	bits(n, 12)
	bit, notes := n.Step(nil, 1, 1)
	want := []api.Note{{Node: 1, Happen: api.Happen{Bad: api.BitError}}}
	if bit != 0 || !slices.Equal(notes, want) { // the second bit of its identifier
		t.Fatalf("%d, %v; want 0, %v", bit, notes, want)
	}
	fates(t, n, 1)
	waits(t, n, 1, 0)
	l := bits(n, 300)
	if len(l) < 5 || l[len(l)-1].Note != (api.Note{Node: 1, Happen: api.Happen{Sent: true, Frame: three}}) { // the try is made again
		t.Errorf("it happened %v", l)
	}
	n = made(t, plant())
	bits(n, 11)
	if _, notes := n.Step(nil, 0, 2, -1, 3); len(notes) != 0 { // both begin to hear
		t.Fatalf("%v", notes)
	}
	l = bits(n, 5)
	for _, x := range l {
		if x.Note.Node == 1 {
			t.Fatalf("%v", l)
		}
	}
	bits(n, 100)
	releases(t, n, 0, 4, 0)
	if got := bits(n, 200); len(got) != 4 {
		t.Errorf("it happened %v", got)
	}
}

func TestTicks(t *testing.T) { // P30.1: those of its place, and Nominal, if there are not so many
	n := made(t, plant())
	want := [3]int64{}
	for _, c := range []struct {
		ticks []int64
		want  [3]int64
	}{
		{nil, [3]int64{10, 10, 10}}, {[]int64{}, [3]int64{10, 10, 10}}, {[]int64{9}, [3]int64{9, 10, 10}}, {[]int64{9, 11}, [3]int64{9, 11, 10}}, {[]int64{0, 1, 300}, [3]int64{0, 1, 300}}, {[]int64{1, 2, 3, 4, 5}, [3]int64{1, 2, 3}},
		{[]int64{-1, api.MaxInc, api.MaxInc + 1}, [3]int64{10, api.MaxInc, 10}}, {[]int64{math.MinInt64, math.MaxInt64}, [3]int64{10, 10, 10}},
	} {
		given := slices.Clone(c.ticks)
		n.Step(c.ticks)
		for k := range 3 {
			want[k] += c.want[k]
			stands(t, n, k, want[k], false, api.Active)
		}
		if !slices.Equal(given, c.ticks) { // P3
			t.Errorf("%v became %v", given, c.ticks)
		}
	}
}

func TestRelease(t *testing.T) { // P30.1: its station's
	n := made(t, plant())
	bits(n, 3)
	for _, c := range []struct{ k, id, tag int }{{1, 3, 0}, {1, 5, 1}, {2, 9, 0}, {1, 3, 2}, {0, 4, 0}} {
		releases(t, n, c.k, c.id, c.tag)
	}
	refuses(t, n, 1, 3, api.ErrFull)
	for _, c := range []struct{ k, id int }{{0, 3}, {2, 3}, {1, 9}, {1, 4}, {0, 7}, {0, -1}} {
		refuses(t, n, c.k, c.id, api.ErrNone)
	}
	waits(t, n, 0, 0)
	waits(t, n, 1, 0, 1, 2)
	waits(t, n, 2, 0)
	is(t, "Cancel", n.Cancel(1, 1), api.OK)
	is(t, "Cancel", n.Cancel(1, 1), api.ErrNone)
	is(t, "Cancel", n.Cancel(0, 2), api.ErrNone)
	is(t, "Cancel", n.Cancel(0, 0), api.OK)
	waits(t, n, 0)
	waits(t, n, 1, 0, 2)
	fates(t, n, 0, api.Outcome{Tag: 0, Fate: api.Cancelled, At: 30})
	fates(t, n, 1, api.Outcome{Tag: 1, Fate: api.Cancelled, At: 30})
	fates(t, n, 2)
	happens(t, bits(n, 8))
	happens(t, bits(n, 2), api.Entry{At: 11, Note: api.Note{Node: 1, Happen: api.Happen{Began: true}}}, api.Entry{At: 11, Note: api.Note{Node: 2, Happen: api.Happen{Began: true}}})
}

func TestRead(t *testing.T) { // P30.1: its station's: from a frame's first bit to the one at which it was got, by the reader's count
	n := made(t, plant())
	releases(t, n, 1, 3, 0)
	bits(n, 11)
	for range 150 {
		n.Step([]int64{9, 10, 11})
	}
	long := int64(wire.Long(three))
	reads(t, n, 0, api.Stamped{Frame: three, From: 119, To: 110 + 9*(long-1)})
	reads(t, n, 1)
	reads(t, n, 2, api.Stamped{Frame: three, From: 121, To: 110 + 11*(long-1)})
}

func TestHand(t *testing.T) { // chapter 30, step 1: a node has just what its station wants, as long as it is not sending
	n := made(t, plant())
	releases(t, n, 1, 5, 0)
	bits(n, 5)
	releases(t, n, 1, 3, 1) // is sent first
	happens(t, bits(n, 11+wire.Long(three)-5), goes(11, 1, three, 0, 2)...)
	is(t, "Cancel", n.Cancel(1, 0), api.OK) // and then nothing
	happens(t, bits(n, 100))

	n = made(t, plant())
	releases(t, n, 1, 5, 0)
	bits(n, 20)
	releases(t, n, 1, 3, 1) // while the other one is sent
	next := 11 + wire.Long(five) + 3
	l := bits(n, 400)
	happens(t, l[:3], goes(11, 1, five, 0, 2)[1:]...)
	happens(t, l[3:], goes(next, 1, three, 0, 2)...)
	fates(t, n, 1, api.Outcome{Tag: 0, Fate: api.Delivered, At: nominal * int64(11+wire.Long(five))}, api.Outcome{Tag: 1, Fate: api.Delivered, At: nominal * int64(next+wire.Long(three))})
}

func TestPromotedOnTheWire(t *testing.T) { // chapter 30, step 1: what a node has to send has the name that there is at its first bit
	n := made(t, plant())
	bits(n, 20)
	releases(t, n, 1, 3, 0) // due at 50200
	releases(t, n, 2, 9, 0)
	long := wire.Long(three)
	l := append(bits(n, long+100), bits(n, 300)...)
	slot := 50 - (20+long+3)*nominal/1000
	later := labelled(api.EdfClass, slot, 9, 2, 8)
	happens(t, l[len(l)-4:], goes(20+long+3, 2, later, 0, 1)...)
}

func TestCrash(t *testing.T) { // P30.1, P30.2, P30.3
	n := made(t, plant())
	releases(t, n, 1, 3, 0)
	bits(n, 5)
	releases(t, n, 1, 5, 1)
	is(t, "Cancel", n.Cancel(1, 1), api.OK)
	releases(t, n, 1, 5, 2)
	bits(n, 200)
	releases(t, n, 1, 5, 3)
	is(t, "Crash", n.Crash(1), api.OK)
	waits(t, n, 1)
	bits(n, 3)
	now := nominal * int64(11+wire.Long(three))
	fates(t, n, 1, api.Outcome{Tag: 1, Fate: api.Cancelled, At: 50}, api.Outcome{Tag: 0, Fate: api.Delivered, At: now}, api.Outcome{Tag: 2, Fate: api.Crashed, At: 2050}, api.Outcome{Tag: 3, Fate: api.Crashed, At: 2050}) // what was not asked ahead, too
	isNone(t, n, 1, api.OK, api.ErrState)
	for _, k := range []int{0, 2} {
		if !n.Alive(k) || n.Clock(k) != 2080 {
			t.Errorf("node %d is off", k)
		}
	}
	bits(n, 200)
	isNone(t, n, 1, api.OK, api.ErrState)
	is(t, "Restart", n.Restart(1), api.OK)
	isNew(t, n, 1)
	is(t, "Restart", n.Restart(1), api.ErrState)
	is(t, "Restart", n.Restart(0), api.ErrState)
	releases(t, n, 1, 5, 0) // tags begin anew
	bits(n, 7)
	stands(t, n, 1, 70, false, api.Active)
}

func TestRestartForgets(t *testing.T) { // P30.1
	n := made(t, plant())
	releases(t, n, 1, 3, 0)
	releases(t, n, 2, 9, 0)
	bits(n, 4)
	is(t, "Crash", n.Crash(1), api.OK)
	is(t, "Crash", n.Crash(2), api.OK)
	is(t, "Restart", n.Restart(1), api.OK)
	isNew(t, n, 1)
	fates(t, n, 2, api.Outcome{Tag: 0, Fate: api.Crashed, At: 40})
	is(t, "Restart", n.Restart(2), api.OK)
	isNew(t, n, 2)
	happens(t, bits(n, 300)) // nothing of them is left
	releases(t, n, 1, 3, 0)
	is(t, "Cancel", n.Cancel(1, 0), api.OK)
	is(t, "Crash", n.Crash(1), api.OK)
	is(t, "Restart", n.Restart(1), api.OK)
	isNew(t, n, 1)
}

func TestAlone(t *testing.T) { // P30.2: Mode is by what a node counts; example 2 of the whole
	n := made(t, plant())
	is(t, "Crash", n.Crash(0), api.OK)
	is(t, "Crash", n.Crash(2), api.OK)
	releases(t, n, 1, 3, 0)
	tries := 0
	for range 4000 {
		_, notes := n.Step(nil)
		for _, x := range notes {
			if x.Happen.Bad == api.AckBad {
				tries++
			}
		}
		want := api.Active
		if tries >= 16 {
			want = api.Passive
		}
		if got := n.Mode(1); got != want {
			t.Fatalf("Mode(1) = %d behind %d tries", got, tries)
		}
	}
	if tries <= 16 || n.Mode(0) != api.Active {
		t.Errorf("%d tries", tries)
	}
	waits(t, n, 1, 0)
	is(t, "Crash", n.Crash(1), api.OK)
	if n.Mode(1) != api.Active {
		t.Error("a node that is off has a mode")
	}
	is(t, "Restart", n.Restart(1), api.OK)
	isNew(t, n, 1)
}

func TestOffBus(t *testing.T) { // P30.2
	n := made(t, plant())
	releases(t, n, 1, 3, 0)
	bits(n, 11)
	for range 3000 {
		if n.Mode(1) == api.OffBus {
			break
		}
		n.Step(nil, 1) // it hears what it did not send
	}
	if n.Mode(1) != api.OffBus || n.Mode(0) == api.OffBus {
		t.Errorf("modes %d, %d", n.Mode(0), n.Mode(1))
	}
	waits(t, n, 1, 0)
	bits(n, 3000) // and is back
	if n.Mode(1) != api.Active {
		t.Errorf("mode %d", n.Mode(1))
	}
	waits(t, n, 1)
}

func TestMasters(t *testing.T) { // the chapter's example, P30.2
	for _, p := range []api.Plant{turning(), changed(func(p *api.Plant) { p.Nodes, p.Base, p.Step, p.Period = 5, 300, 1, 300 })} {
		n := made(t, p)
		for range p.Base {
			bits(n, 1)
			if l := n.Masters(); len(l) != 0 {
				t.Fatalf("Masters() = %v", l)
			}
		}
		bits(n, 1)
		if l := n.Masters(); !slices.Equal(l, []int{0}) {
			t.Fatalf("Masters() = %v", l)
		}
	}
	n := made(t, changed(func(p *api.Plant) { p.Nodes, p.Base, p.Step, p.Period = 5, 300, 1, 300 }))
	bits(n, 303)
	if l := n.Masters(); !slices.Equal(l, []int{0, 1, 2}) { // till they hear of one another
		t.Fatalf("Masters() = %v", l)
	}
	is(t, "Crash", n.Crash(1), api.OK)
	if l := n.Masters(); !slices.Equal(l, []int{0, 2}) {
		t.Fatalf("Masters() = %v", l)
	}
	bits(n, 200)
	if l := n.Masters(); !slices.Equal(l, []int{0}) {
		t.Fatalf("Masters() = %v", l)
	}
}

func TestTurnAndFollow(t *testing.T) { // chapter 30, step 3: a turn, and what follows it; who hears both is told the time, as it was when the turn was sent, for when it got that
	n := made(t, turning())
	fast := func(many int) []api.Entry {
		var all []api.Entry
		for range many {
			at := n.Time()
			_, notes := n.Step([]int64{11, 10, 9})
			for _, x := range notes {
				all = append(all, api.Entry{At: at, Note: x})
			}
		}
		return all
	}
	fast(901)
	stands(t, n, 0, 9911, false, api.Active)
	turn, _ := slave.Frame(slave.Word{Rank: 0, Round: 1})
	happens(t, fast(wire.Long(turn)+3), goes(901, 0, turn, 1, 2)...)
	sent := int64(901 + wire.Long(turn)) // how many bits went by up to there
	follow, _ := slave.Frame(slave.Word{Follow: true, Rank: 0, Round: 1, Time: sent * 11})
	got := sent + 3 + int64(wire.Long(follow)) - 1
	fast(wire.Long(follow) - 1)
	for k := 1; k < 3; k++ {
		stands(t, n, k, got*int64(11-k), true, api.Active)
	}
	stands(t, n, 0, got*11, false, api.Active)
	fast(1)
	for k := 1; k < 3; k++ {
		stands(t, n, k, sent*11+(got+1-(sent-1))*int64(11-k), true, api.Active)
	}
	stands(t, n, 0, (got+1)*11, false, api.Active)
	for k := range 3 {
		reads(t, n, k)
		fates(t, n, k)
	}
}

func TestApart(t *testing.T) { // P5: networks have nothing in common
	a, b := made(t, plant()), made(t, plant())
	releases(t, a, 1, 3, 0)
	bits(a, 30)
	for k := range 3 {
		isNew(t, b, k)
	}
	if b.Time() != 0 {
		t.Errorf("Time() = %d", b.Time())
	}
	is(t, "Crash", a.Crash(0), api.OK)
	if !b.Alive(0) {
		t.Error("node 0 is off")
	}
}

func TestTheCallers(t *testing.T) { // P3: what was told does not change with the network, nor it with that
	n := made(t, plant())
	releases(t, n, 1, 3, 0)
	releases(t, n, 1, 5, 1)
	releases(t, n, 1, 5, 2)
	is(t, "Cancel", n.Cancel(1, 0), api.OK)
	told := n.Fates(1)
	l := n.Waits(1)
	l[0] = 77
	is(t, "Cancel", n.Cancel(1, 1), api.OK)
	_ = append(told, api.Outcome{Tag: 9})
	told[0] = api.Outcome{Tag: 8}
	is(t, "Crash", n.Crash(1), api.OK)
	left := n.Fates(1)
	if want := []api.Outcome{{Tag: 1, Fate: api.Cancelled}, {Tag: 2, Fate: api.Crashed}}; !slices.Equal(left, want) || told[0] != (api.Outcome{Tag: 8}) {
		t.Errorf("%v, %v; want %v", told, left, want)
	}
	bits(n, 11)
	releases(t, n, 2, 9, 0)
	_, notes := n.Step(nil)
	kept := slices.Clone(notes)
	bits(n, 200)
	if !slices.Equal(notes, kept) {
		t.Errorf("%v became %v", kept, notes)
	}
}
