package station_test

import (
	"math"
	"slices"
	"testing"

	"bellbuoy/api"
	"bellbuoy/slave"
	"bellbuoy/station"
)

// nominal is how many ticks a bit has in these tests, where they do not say otherwise; waits is for how many bits a node of rank 0 hears nobody, step how many more each next one does, till it is master.
const (
	nominal = 10
	waits   = 60
	step    = 20
	period  = 30
)

// full is bytes of which none is 0.
var full = [8]byte{1, 2, 3, 4, 5, 6, 7, 255}

// streams is those of node 1, which has two of deadlines, 3 and 6, one of ranks, 4, and one of neither, 5, and of others.
func streams() []api.Stream {
	return []api.Stream{
		{Id: 5, Node: 1, Class: api.FixedClass, Period: 90000, Deadline: 80000, Slot: 7, Bytes: 0},
		{Id: 9, Node: 2, Class: api.EdfClass, Period: 9000, Deadline: 5000, Bytes: 8},
		{Id: 3, Node: 1, Class: api.EdfClass, Period: 9000, Deadline: 5000, Bytes: 8},
		{Id: 4, Node: 1, Class: api.DmClass, Period: 9000, Deadline: 8000, Slot: 2, Bytes: 3},
		{Id: 6, Node: 1, Class: api.EdfClass, Period: 9000, Deadline: 2000, Bytes: 5},
		{Id: 0, Node: 0, Class: api.EdfClass, Period: 9000, Deadline: 5000, Bytes: 8},
	}
}

// plant is a network of four nodes, with slots of 1000 ticks, which are 100 bits.
func plant() api.Plant {
	return api.Plant{Nodes: 4, Streams: streams(), Length: 1000, Room: 5, Beat: api.Beat{Nominal: nominal, Drift: 1}, Tune: 100, Base: waits, Step: step, Period: period}
}

// changed is that network, but for something.
func changed(change func(p *api.Plant)) api.Plant {
	p := plant()
	change(&p)
	return p
}

// made is a node of a network.
func made(t *testing.T, p api.Plant, k int) *station.Station {
	t.Helper()
	s, errno := station.New(p, k)
	if s == nil || errno != api.OK {
		t.Fatalf("New(%v, %d) = %v, %d", p, k, s, errno)
	}
	return s
}

// calm is node 1 of a network in which nobody is ever master, as far as tests go.
func calm(t *testing.T) *station.Station {
	t.Helper()
	return made(t, changed(func(p *api.Plant) { p.Base = 10000 }), 1)
}

var nothing = api.Happen{}

// bits lets so many go by, in which nothing happens.
func bits(s *station.Station, many int) {
	for range many {
		s.Took(nothing, api.Ready, nominal)
	}
}

// begins, loses and sends are bits at which a node does so.
func begins(s *station.Station) { s.Took(api.Happen{Began: true}, api.Sending, nominal) }
func loses(s *station.Station)  { s.Took(api.Happen{Lost: true}, api.Hearing, nominal) }
func sends(s *station.Station)  { s.Took(api.Happen{Sent: true}, api.Pausing, nominal) }

// gets is a bit at which a node gets a frame.
func gets(s *station.Station, f api.Frame) {
	s.Took(api.Happen{Got: true, Frame: f}, api.Hearing, nominal)
}

// word is the frame of one.
func word(t *testing.T, w slave.Word) api.Frame {
	t.Helper()
	f, errno := slave.Frame(w)
	if errno != api.OK {
		t.Fatalf("%v is no word", w)
	}
	return f
}

func turn(rank, round int) slave.Word { return slave.Word{Rank: rank, Round: round} }
func follow(rank, round int, time int64) slave.Word {
	return slave.Word{Follow: true, Rank: rank, Round: round, Time: time}
}

// labelled is the frame of a label, as chapter 23 has its identifier.
func labelled(class api.Class, slot, stream, node, bytes int) api.Frame {
	n := (((uint32(class)<<8|uint32(slot))<<11|uint32(stream))<<5 | uint32(node)) << 3
	f := api.Frame{Id: api.Ident{Ext: true, N: n}, Len: bytes}
	copy(f.Data[:bytes], full[:])
	return f
}

// Those of node 1's streams.
func three(slot int) api.Frame { return labelled(api.EdfClass, slot, 3, 1, 8) }
func six(slot int) api.Frame   { return labelled(api.EdfClass, slot, 6, 1, 5) }

var (
	four = labelled(api.DmClass, 2, 4, 1, 3)
	five = labelled(api.FixedClass, 7, 5, 1, 0)
)

// releases takes a frame in; it fails unless it has that tag.
func releases(t *testing.T, s *station.Station, id, want int) {
	t.Helper()
	if tag, errno := s.Release(id, full); tag != want || errno != api.OK {
		t.Fatalf("Release(%d) = %d, %d; want %d", id, tag, errno, want)
	}
}

// refuses fails unless a frame is refused with that error.
func refuses(t *testing.T, s *station.Station, id int, want api.Errno) {
	t.Helper()
	if tag, errno := s.Release(id, full); tag != -1 || errno != want {
		t.Fatalf("Release(%d) = %d, %d; want %d", id, tag, errno, want)
	}
}

// cancels fails unless Cancel answers so.
func cancels(t *testing.T, s *station.Station, tag int, want api.Errno) {
	t.Helper()
	if errno := s.Cancel(tag); errno != want {
		t.Fatalf("Cancel(%d) = %d; want %d", tag, errno, want)
	}
}

// wants fails unless that is what it wants to send; a frame without an identifier is none here.
func wants(t *testing.T, s *station.Station, want api.Frame) {
	t.Helper()
	if got, ok := s.Want(); got != want || ok != (want != api.Frame{}) {
		t.Fatalf("Want() = %v, %v; want %v", got, ok, want)
	}
}

var none = api.Frame{}

// fates fails unless just this became of frames since it was asked last.
func fates(t *testing.T, s *station.Station, want ...api.Outcome) {
	t.Helper()
	if got := s.Fates(); !slices.Equal(got, want) {
		t.Fatalf("Fates() = %v; want %v", got, want)
	}
	if got := s.Fates(); len(got) != 0 {
		t.Fatalf("Fates() = %v, when it is asked twice", got)
	}
}

// waiting fails unless just these wait.
func waiting(t *testing.T, s *station.Station, want ...int) {
	t.Helper()
	if got := s.Waits(); !slices.Equal(got, want) {
		t.Fatalf("Waits() = %v; want %v", got, want)
	}
	for tag := -4; tag < 20; tag++ {
		j, ok := s.Job(tag)
		if ok != slices.Contains(want, tag) || ok != (j != api.Job{}) {
			t.Fatalf("Job(%d) = %v, %v", tag, j, ok)
		}
	}
}

// reads fails unless that is read, in that order, and nothing more.
func reads(t *testing.T, s *station.Station, want ...api.Stamped) {
	t.Helper()
	for _, x := range want {
		if got, ok := s.Read(); got != x || !ok {
			t.Fatalf("Read() = %v, %v; want %v", got, ok, x)
		}
	}
	if got, ok := s.Read(); got != (api.Stamped{}) || ok {
		t.Fatalf("Read() = %v, %v", got, ok)
	}
}

// stands fails unless time and count are these, and it is synced, or not.
func stands(t *testing.T, s *station.Station, time, count int64, synced bool) {
	t.Helper()
	if s.Time() != time || s.Count() != count || s.Synced() != synced {
		t.Fatalf("time %d, count %d, synced: %v; want %d, %d, %v", s.Time(), s.Count(), s.Synced(), time, count, synced)
	}
}

// outOfRange is what is wrong with networks, but for their streams.
func outOfRange() []func(p *api.Plant) {
	var list []func(p *api.Plant)
	for _, n := range []int{1, 0, -1, api.MaxNodes + 1, 1 << 32, 1<<32 + 4, math.MaxInt, math.MinInt} {
		list = append(list, func(p *api.Plant) { p.Nodes = n })
	}
	for _, n := range []int{0, -1, api.MaxQueue + 1, 1<<32 + 4, math.MaxInt, math.MinInt} {
		list = append(list, func(p *api.Plant) { p.Room = n })
	}
	for _, b := range []api.Beat{{}, {Nominal: 10, Drift: 10}, {Nominal: 10, Drift: -1}, {Nominal: api.MaxInc + 1}, {Nominal: -10}, {Nominal: math.MinInt64, Drift: math.MaxInt64}} {
		list = append(list, func(p *api.Plant) { p.Beat = b })
	}
	for _, n := range []int64{-1, api.MaxTune + 1, 1 << 32, math.MaxInt64, math.MinInt64} {
		list = append(list, func(p *api.Plant) { p.Tune = n })
	}
	for _, n := range []int{period - 1, 0, -1, 10001, math.MaxInt, math.MinInt} {
		list = append(list, func(p *api.Plant) { p.Base = n })
	}
	for _, n := range []int{0, -1, 1001, math.MaxInt, math.MinInt} {
		list = append(list, func(p *api.Plant) { p.Step = n }, func(p *api.Plant) { p.Period = n })
	}
	return append(list, func(p *api.Plant) { p.Period = waits + 1 })
}

// wrong is what is wrong with streams, and the error that has.
type wrong struct {
	change func(p *api.Plant)
	errno  api.Errno
}

func wrongStreams() []wrong {
	at := func(i int, change func(s *api.Stream)) func(p *api.Plant) {
		return func(p *api.Plant) { change(&p.Streams[i]) }
	}
	many := func(p *api.Plant) {
		for i := range api.MaxStreams {
			p.Streams = append(p.Streams, api.Stream{Id: 100 + i, Class: api.DmClass, Period: 1, Deadline: 1})
		}
	}
	return []wrong{
		{many, api.ErrLong},
		{func(p *api.Plant) { p.Length = 0 }, api.ErrRange}, {func(p *api.Plant) { p.Length = -1 }, api.ErrRange}, {func(p *api.Plant) { p.Length, p.Streams = api.MaxSpan+1, nil }, api.ErrRange},
		{at(0, func(s *api.Stream) { s.Class = 0 }), api.ErrKind}, {at(5, func(s *api.Stream) { s.Class = 4 }), api.ErrKind},
		{at(1, func(s *api.Stream) { s.Node = -1 }), api.ErrRange}, {at(1, func(s *api.Stream) { s.Node = api.MaxNodes }), api.ErrRange}, {at(3, func(s *api.Stream) { s.Slot = 256 }), api.ErrRange}, {at(2, func(s *api.Stream) { s.Deadline = 9001 }), api.ErrRange},
		{at(4, func(s *api.Stream) { s.Bytes = 9 }), api.ErrLen}, {at(4, func(s *api.Stream) { s.Id = 5 }), api.ErrTwice}, {at(4, func(s *api.Stream) { s.Deadline = 999 }), api.ErrOver}, {func(p *api.Plant) { p.Length = 2001 }, api.ErrOver},
	}
}

// rights is networks that just can be.
func rights() []api.Plant {
	list := []api.Plant{plant(), changed(func(p *api.Plant) { p.Streams = nil }), changed(func(p *api.Plant) { p.Nodes, p.Streams = 2, nil }), changed(func(p *api.Plant) { p.Nodes = 3 })}
	list = append(list, changed(func(p *api.Plant) { p.Nodes = api.MaxNodes; p.Streams[1].Node = api.MaxNodes - 1 }), changed(func(p *api.Plant) { p.Streams[5].Node = 3 }))
	for _, n := range []int{1, api.MaxQueue} {
		list = append(list, changed(func(p *api.Plant) { p.Room = n }))
	}
	for _, b := range []api.Beat{{Nominal: 1}, {Nominal: api.MaxInc}, {Nominal: api.MaxInc, Drift: api.MaxInc - 1}} {
		list = append(list, changed(func(p *api.Plant) { p.Beat = b }))
	}
	for _, n := range []int64{0, api.MaxTune} {
		list = append(list, changed(func(p *api.Plant) { p.Tune = n }))
	}
	for _, n := range []int64{1, 2000} {
		list = append(list, changed(func(p *api.Plant) { p.Length = n }))
	}
	for _, turns := range [][3]int{{1, 1, 1}, {10000, 1000, 1000}, {1000, 1, 1000}, {period, 1, period}} {
		list = append(list, changed(func(p *api.Plant) { p.Base, p.Step, p.Period = turns[0], turns[1], turns[2] }))
	}
	return append(list, changed(func(p *api.Plant) { p.Streams, p.Length = nil, api.MaxSpan }))
}

// checks fails unless Check and New, of whatever number, have that error; what was handed in stays as it is (P3).
func checks(t *testing.T, p api.Plant, want api.Errno) {
	t.Helper()
	given := slices.Clone(p.Streams)
	if got := station.Check(p); got != want {
		t.Errorf("Check(%v) = %d; want %d", p, got, want)
	}
	for _, k := range []int{0, 1, p.Nodes - 1, p.Nodes, -1, api.MaxNodes, math.MaxInt, math.MinInt} {
		errno := want
		if errno == api.OK && (k < 0 || k >= p.Nodes) {
			errno = api.ErrRange
		}
		if s, got := station.New(p, k); (s != nil) != (errno == api.OK) || got != errno {
			t.Errorf("New(%v, %d) = %v, %d; want %d", p, k, s, got, errno)
		}
	}
	if !slices.Equal(p.Streams, given) {
		t.Errorf("%v became %v", given, p.Streams)
	}
}

func TestCheck(t *testing.T) { // P29.1, of Check and New
	for _, p := range rights() {
		checks(t, p, api.OK)
	}
	elsewhere := func(p *api.Plant) { p.Streams[0].Node = p.Nodes }
	for _, change := range outOfRange() {
		checks(t, changed(change), api.ErrRange)
		for _, x := range wrongStreams() { // out of range is told ahead of streams that can't be
			checks(t, changed(func(p *api.Plant) { x.change(p); change(p) }), api.ErrRange)
		}
	}
	for _, x := range wrongStreams() {
		checks(t, changed(x.change), x.errno)
		checks(t, changed(func(p *api.Plant) { elsewhere(p); x.change(p) }), x.errno) // and these ahead of a node that is not there
	}
	checks(t, changed(elsewhere), api.ErrNone)
	checks(t, changed(func(p *api.Plant) { p.Streams[5].Node = api.MaxNodes - 1 }), api.ErrNone)
	checks(t, changed(func(p *api.Plant) { p.Nodes = 2 }), api.ErrNone)
}

func TestNew(t *testing.T) { // P29.1, and the chapter's example
	for _, p := range rights() {
		for _, k := range []int{0, p.Nodes / 2, p.Nodes - 1} {
			isNew(t, made(t, p, k))
		}
	}
}

// isNew fails if something is there that a new station, and one that is none, has not.
func isNew(t *testing.T, s *station.Station) {
	t.Helper()
	stands(t, s, 0, 0, false)
	wants(t, s, none)
	reads(t, s)
	waiting(t, s)
	fates(t, s)
	if s.Master() {
		t.Fatal("it is master")
	}
	for _, tag := range []int{0, 1, -1, api.TurnTag, api.FollowTag, math.MaxInt, math.MinInt} {
		cancels(t, s, tag, api.ErrNone)
	}
	for _, id := range []int{-1, 7, 2047, 2048, math.MaxInt, math.MinInt} {
		refuses(t, s, id, api.ErrNone)
	}
}

func TestNil(t *testing.T) { // P29.2
	var s *station.Station
	isNew(t, s)
	for id := range 10 {
		refuses(t, s, id, api.ErrNone)
	}
	for range 3 {
		begins(s)
		gets(s, word(t, turn(0, 1)))
		gets(s, three(1))
		sends(s)
		s.Crash()
		isNew(t, s)
	}
}

func TestNotMade(t *testing.T) { // P1: nor does one that New did not make panic
	s := &station.Station{}
	isNew(t, s)
	for id := range 10 {
		refuses(t, s, id, api.ErrNone)
	}
	for range 3 {
		begins(s)
		gets(s, word(t, turn(0, 1)))
		gets(s, word(t, follow(0, 1, 7)))
		sends(s)
		s.Took(nothing, 99, -1)
		s.Crash()
		wants(t, s, none)
		waiting(t, s)
		fates(t, s)
	}
}

func TestNothingKept(t *testing.T) { // P3: a station does not change with what New was given
	p := plant()
	s := made(t, p, 1)
	for i := range p.Streams {
		p.Streams[i] = api.Stream{}
	}
	releases(t, s, 3, 0)
	wants(t, s, three(5))
}

func TestRelease(t *testing.T) { // P29.1: the scheduler's, at the time, and what is first is wanted at once
	s := calm(t)
	bits(s, 7)
	releases(t, s, 5, 0)
	wants(t, s, five)
	releases(t, s, 4, 1)
	wants(t, s, four) // what was in a mailbox is not any more
	releases(t, s, 3, 2)
	wants(t, s, three(5))
	bits(s, 3)
	releases(t, s, 6, 3)
	wants(t, s, six(2))
	for tag, want := range []api.Job{{Stream: 5, Release: 70, Deadline: 80070, Cost: 80}, {Stream: 4, Release: 70, Deadline: 8070, Cost: 110}, {Stream: 3, Release: 70, Deadline: 5070, Cost: 160}, {Stream: 6, Release: 100, Deadline: 2100, Cost: 130}} {
		if got, ok := s.Job(tag); got != want || !ok {
			t.Errorf("Job(%d) = %v, %v; want %v", tag, got, ok, want)
		}
	}
	for _, id := range []int{9, 0, 1, 7, -1, math.MaxInt, math.MinInt} { // another node's, and nobody's
		refuses(t, s, id, api.ErrNone)
	}
	releases(t, s, 6, 4)
	refuses(t, s, 6, api.ErrFull)
	wants(t, s, six(2))
	waiting(t, s, 0, 1, 2, 3, 4)
	fates(t, s)
}

func TestReleaseAtAnyTime(t *testing.T) { // P29.1: also at the latest times that it is told
	s := calm(t)
	gets(s, word(t, turn(0, 1)))
	gets(s, word(t, follow(0, 1, 1<<48-1)))
	bits(s, 1)
	stands(t, s, 1<<48-1+20, 30, true)
	releases(t, s, 3, 0)
	if j, ok := s.Job(0); j != (api.Job{Stream: 3, Release: 1<<48 + 19, Deadline: 1<<48 + 5019, Cost: 160}) || !ok {
		t.Errorf("Job(0) = %v, %v", j, ok)
	}
}

func TestCancel(t *testing.T) { // P29.1
	s := calm(t)
	bits(s, 7)
	for tag, id := range []int{5, 4, 3, 6} {
		releases(t, s, id, tag)
	}
	cancels(t, s, 3, api.OK)
	wants(t, s, three(5)) // at once
	bits(s, 2)
	cancels(t, s, 0, api.OK)
	wants(t, s, three(5))
	for _, tag := range []int{3, 0, 4, -1, api.TurnTag, math.MaxInt, math.MinInt} {
		cancels(t, s, tag, api.ErrNone)
	}
	cancels(t, s, 2, api.OK)
	wants(t, s, four)
	waiting(t, s, 1)
	cancels(t, s, 1, api.OK)
	wants(t, s, none)
	bits(s, 5)
	wants(t, s, none)
	fates(t, s, api.Outcome{Tag: 3, Fate: api.Cancelled, At: 70}, api.Outcome{Tag: 0, Fate: api.Cancelled, At: 90}, api.Outcome{Tag: 2, Fate: api.Cancelled, At: 90}, api.Outcome{Tag: 1, Fate: api.Cancelled, At: 90})
}

func TestDelivered(t *testing.T) { // P29.2: step 3, at the time
	s := calm(t)
	bits(s, 7)
	releases(t, s, 3, 0)
	releases(t, s, 6, 1)
	releases(t, s, 5, 2)
	begins(s)
	wants(t, s, six(2))
	bits(s, 4)
	fates(t, s)
	waiting(t, s, 0, 1, 2)
	s.Took(api.Happen{Sent: true}, api.Pausing, 11) // the time is that of the clock behind this bit
	wants(t, s, three(5))
	waiting(t, s, 0, 2)
	fates(t, s, api.Outcome{Tag: 1, Fate: api.Delivered, At: 131})
	begins(s)
	sends(s)
	begins(s)
	wants(t, s, five)
	sends(s)
	wants(t, s, none)
	waiting(t, s)
	fates(t, s, api.Outcome{Tag: 0, Fate: api.Delivered, At: 151}, api.Outcome{Tag: 2, Fate: api.Delivered, At: 171})
}

func TestBetterWhileOneIsSent(t *testing.T) { // P29.2: step 7: what is being sent stays
	for _, over := range []func(s *station.Station){loses, func(s *station.Station) { s.Took(api.Happen{Bad: api.BitError}, api.Flagging, nominal) }} {
		s := calm(t)
		releases(t, s, 3, 0)
		begins(s)
		releases(t, s, 6, 1)
		wants(t, s, three(5))
		bits(s, 3)
		wants(t, s, three(5))
		over(s)
		wants(t, s, six(2)) // at that bit
		begins(s)
		sends(s)
		wants(t, s, three(5))
		waiting(t, s, 0)
		fates(t, s, api.Outcome{Tag: 1, Fate: api.Delivered, At: 60 + nominal})
	}
	s := calm(t) // and if it is sent, it was
	releases(t, s, 3, 0)
	begins(s)
	releases(t, s, 6, 1)
	sends(s)
	wants(t, s, six(2))
	waiting(t, s, 1)
	fates(t, s, api.Outcome{Tag: 0, Fate: api.Delivered, At: 20})
}

func TestCancelWhatIsSent(t *testing.T) { // P29.1, P29.4: it has that fate alone, whatever comes of its try
	s := calm(t)
	releases(t, s, 3, 0)
	releases(t, s, 4, 1)
	begins(s)
	cancels(t, s, 0, api.OK)
	wants(t, s, three(5))
	waiting(t, s, 1)
	sends(s)
	wants(t, s, four)
	fates(t, s, api.Outcome{Tag: 0, Fate: api.Cancelled, At: 10})
	waiting(t, s, 1)
	begins(s)
	cancels(t, s, 1, api.OK)
	wants(t, s, four)
	loses(s)
	wants(t, s, none)
	bits(s, 2)
	fates(t, s, api.Outcome{Tag: 1, Fate: api.Cancelled, At: 30})
}

func TestTwins(t *testing.T) { // P29.2: step 7: the frame of another tag is another one, be both alike
	s := calm(t)
	releases(t, s, 3, 0)
	releases(t, s, 3, 1)
	bits(s, 2)
	cancels(t, s, 0, api.OK)
	wants(t, s, three(5))
	begins(s)
	sends(s)
	wants(t, s, none)
	waiting(t, s)
	fates(t, s, api.Outcome{Tag: 0, Fate: api.Cancelled, At: 20}, api.Outcome{Tag: 1, Fate: api.Delivered, At: 40})
}

func TestMissed(t *testing.T) { // P29.2: step 6, P29.4
	s := calm(t)
	releases(t, s, 6, 0) // due at 2000
	releases(t, s, 5, 1)
	bits(s, 200)
	waiting(t, s, 0, 1)
	wants(t, s, six(0))
	s.Took(nothing, api.Ready, 1)
	waiting(t, s, 1)
	wants(t, s, five)
	fates(t, s, api.Outcome{Tag: 0, Fate: api.Missed, At: 2001})
	releases(t, s, 6, 2) // 4001
	begins(s)
	bits(s, 199)
	waiting(t, s, 1, 2)
	bits(s, 1)
	wants(t, s, six(2)) // is being sent still, by the name that it had when it began
	waiting(t, s, 1)
	sends(s)
	wants(t, s, five)
	fates(t, s, api.Outcome{Tag: 2, Fate: api.Missed, At: 4011})
	releases(t, s, 6, 3) // 6021
	begins(s)
	for range 199 {
		bits(s, 1)
	}
	s.Took(api.Happen{Sent: true}, api.Pausing, 11) // sent in the bit in which it would be missed
	fates(t, s, api.Outcome{Tag: 3, Fate: api.Delivered, At: 6032})
}

func TestPromoted(t *testing.T) { // P29.2: steps 6 and 7: what is in a mailbox is there by its new name, but while it is sent
	s := calm(t)
	bits(s, 60)
	releases(t, s, 3, 0) // due at 5600
	bits(s, 39)
	wants(t, s, three(5)) // of slots from 0 on
	bits(s, 1)
	wants(t, s, three(4)) // from 1000 on
	bits(s, 99)
	wants(t, s, three(4))
	bits(s, 1)
	wants(t, s, three(3))
	begins(s)
	bits(s, 150)
	wants(t, s, three(3))
	s.Took(api.Happen{Bad: api.AckBad}, api.Flagging, nominal)
	wants(t, s, three(2))
	begins(s)
	bits(s, 100)
	sends(s)
	wants(t, s, none)
	fates(t, s, api.Outcome{Tag: 0, Fate: api.Delivered, At: 4550 - 10})
}

func TestReleaseBehindPromote(t *testing.T) { // P29.2: step 6: slots from the time on
	s := calm(t)
	bits(s, 250)
	releases(t, s, 3, 0) // due at 7500
	wants(t, s, three(5))
	releases(t, s, 6, 1) // 4500
	wants(t, s, six(2))
}

func TestCrash(t *testing.T) { // P29.2, P29.5
	s := calm(t)
	bits(s, 3)
	releases(t, s, 3, 0)
	releases(t, s, 4, 1)
	bits(s, 2)
	gets(s, four)
	s.Crash()
	waiting(t, s)
	wants(t, s, none)
	fates(t, s, api.Outcome{Tag: 0, Fate: api.Crashed, At: 60}, api.Outcome{Tag: 1, Fate: api.Crashed, At: 60})
	reads(t, s, api.Stamped{Frame: four, From: 60, To: 60})
	stands(t, s, 60, 60, false)
	s.Crash()
	fates(t, s)
}

func TestTicks(t *testing.T) { // P29.2: step 1: a bit whose ticks can't be has Nominal
	s := calm(t)
	want := int64(0)
	for _, c := range []struct{ ticks, counted int64 }{
		{10, 10}, {9, 9}, {0, 0}, {1, 1}, {300, 300}, {api.MaxInc, api.MaxInc}, {-1, nominal}, {api.MaxInc + 1, nominal}, {1 << 60, nominal}, {math.MaxInt64, nominal}, {math.MinInt64, nominal}, {11, 11},
	} {
		s.Took(nothing, api.Waiting, c.ticks)
		want += c.counted
		stands(t, s, want, want, false)
	}
}

func TestRead(t *testing.T) { // P29.1, P29.2: steps 2 and 4: by the count; what comes when MaxFifo wait is lost
	s := calm(t)
	bits(s, 4)
	s.Took(nothing, api.Hearing, 11) // 51
	bits(s, 1)
	s.Took(nothing, api.Hearing, 12) // the frame's first bit: 73
	s.Took(nothing, api.Hearing, 9)
	gets(s, three(1)) // 92
	reads(t, s, api.Stamped{Frame: three(1), From: 73, To: 92})
	var all []api.Stamped
	for i := range api.MaxFifo + 5 {
		s.Took(nothing, api.Ready, 1)
		f := api.Frame{Id: api.Ident{N: 0x100 + uint32(i)}}
		gets(s, f)
		at := s.Count()
		all = append(all, api.Stamped{Frame: f, From: at, To: at})
	}
	if got, ok := s.Read(); got != all[0] || !ok {
		t.Errorf("Read() = %v, %v", got, ok)
	}
	s.Took(nothing, api.Ready, 1)
	gets(s, four) // there is room for one
	gets(s, five)
	at := s.Count() - nominal
	reads(t, s, append(all[1:api.MaxFifo], api.Stamped{Frame: four, From: at, To: at})...)
}

func TestWhatWaitsToBeRead(t *testing.T) { // P29.2: step 4: words of others do not, its own do, and what is like words, but none
	s := calm(t)
	remote := word(t, turn(0, 1))
	remote.Remote = true
	ext := word(t, turn(0, 1))
	ext.Id.Ext = true
	long := word(t, turn(0, 1))
	long.Len = 3
	for _, f := range []api.Frame{word(t, turn(1, 5)), word(t, follow(1, 5, 9)), remote, ext, long, three(5), {}, {Id: api.Ident{N: 64}, Len: 2}, {Len: -1}, {Len: 99}, {Id: api.Ident{N: math.MaxUint32}, Len: 2}} {
		gets(s, f)
		reads(t, s, api.Stamped{Frame: f, From: nominal, To: s.Count()})
		if s.Synced() {
			t.Fatalf("%v tells the time", f)
		}
	}
	for _, w := range []slave.Word{turn(0, 1), turn(2, 65535), turn(31, 0), follow(0, 1, 0), follow(31, 0, 5), follow(2, 9, 1<<48-1)} {
		gets(s, word(t, w))
		reads(t, s)
	}
}
