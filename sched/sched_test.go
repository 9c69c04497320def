package sched_test

import (
	"math"
	"slices"
	"testing"

	"bellbuoy/api"
	"bellbuoy/sched"
)

// length is that of slots in these tests, where they do not say otherwise.
const length = 100

// streams is those of a network: node 1 has one of deadlines, 3, one of ranks, 4, and one of neither, 5, and another one of deadlines, 6; the others are node 2's, and node 0's.
var streams = []api.Stream{
	{Id: 5, Node: 1, Class: api.FixedClass, Period: 3000, Deadline: 2500, Slot: 7, Bytes: 0},
	{Id: 9, Node: 2, Class: api.EdfClass, Period: 1000, Deadline: 500, Bytes: 8},
	{Id: 3, Node: 1, Class: api.EdfClass, Period: 1000, Deadline: 500, Bytes: 8},
	{Id: 4, Node: 1, Class: api.DmClass, Period: 900, Deadline: 800, Slot: 2, Bytes: 3},
	{Id: 0, Node: 0, Class: api.EdfClass, Period: 1000, Deadline: 500, Bytes: 8},
	{Id: 6, Node: 1, Class: api.EdfClass, Period: 50000, Deadline: 40000, Slot: 200, Bytes: 5},
}

// full is bytes of which none is 0.
var full = [8]byte{1, 2, 3, 4, 5, 6, 7, 255}

// times may be any for what is told of when it is, noTimes are none at which a frame comes, noEpochs none that have an epoch.
var (
	times    = []int64{0, 1, 99, 1 << 50, 1<<50 + 1, 1 << 60, math.MaxInt64, -1, -100, math.MinInt64}
	noTimes  = []int64{-1, -100, 1<<50 + 1, 1 << 51, 1 << 60, math.MaxInt64, math.MinInt64, math.MinInt64 + 100}
	noEpochs = []int64{1<<60 + 1, -1<<60 - 1, 1 << 61, -1 << 61, math.MaxInt64, math.MinInt64, math.MinInt64 + 100}
)

// made is a scheduler of node 1.
func made(t *testing.T, room int) *sched.Sched {
	t.Helper()
	s, errno := sched.New(1, streams, length, room)
	if s == nil || errno != api.OK {
		t.Fatalf("New(1, .., %d, %d) = %v, %d", length, room, s, errno)
	}
	return s
}

// releases takes a frame in; it fails unless it has that tag.
func releases(t *testing.T, s *sched.Sched, id int, now int64, want int) {
	t.Helper()
	if tag, errno := s.Release(id, full, now); tag != want || errno != api.OK {
		t.Fatalf("Release(%d, .., %d) = %d, %d; want %d", id, now, tag, errno, want)
	}
}

// refuses fails unless a frame is refused with that error.
func refuses(t *testing.T, s *sched.Sched, id int, now int64, want api.Errno) {
	t.Helper()
	if tag, errno := s.Release(id, full, now); tag != -1 || errno != want {
		t.Fatalf("Release(%d, .., %d) = %d, %d; want %d", id, now, tag, errno, want)
	}
}

// ends fails unless Cancel, or Sent, answers so.
func ends(t *testing.T, name string, errno, want api.Errno) {
	t.Helper()
	if errno != want {
		t.Fatalf("%s = %d; want %d", name, errno, want)
	}
}

// fates fails unless just this became of frames since it was asked last; asked again there is nothing.
func fates(t *testing.T, s *sched.Sched, want ...api.Outcome) {
	t.Helper()
	if got := s.Fates(); !slices.Equal(got, want) {
		t.Fatalf("Fates() = %v; want %v", got, want)
	}
	if got := s.Fates(); len(got) != 0 {
		t.Fatalf("Fates() = %v, when it is asked twice", got)
	}
}

// waits fails unless just these wait.
func waits(t *testing.T, s *sched.Sched, want ...int) {
	t.Helper()
	if got := s.Waits(); !slices.Equal(got, want) {
		t.Fatalf("Waits() = %v; want %v", got, want)
	}
	for tag := -3; tag < 80; tag++ {
		_, job := s.Job(tag)
		_, label := s.Label(tag)
		if is := slices.Contains(want, tag); job != is || label != is {
			t.Fatalf("%d waits: %v; Job() is there: %v, Label(): %v", tag, is, job, label)
		}
	}
}

// heads fails unless that is the first one.
func heads(t *testing.T, s *sched.Sched, want api.Post) {
	t.Helper()
	if got, ok := s.Head(); got != want || !ok {
		t.Fatalf("Head() = %v, %v; want %v", got, ok, want)
	}
}

// labels fails unless that is what is said of one that waits.
func labels(t *testing.T, s *sched.Sched, tag int, want api.Label) {
	t.Helper()
	if got, ok := s.Label(tag); got != want || !ok {
		t.Fatalf("Label(%d) = %v, %v; want %v", tag, got, ok, want)
	}
}

// due is a label of node 1's stream of deadlines.
func due(slot int) api.Label { return api.Label{Class: api.EdfClass, Slot: slot, Stream: 3, Node: 1} }

// post is that of a label, as chapter 23 has its identifier.
func post(l api.Label, bytes, tag int) api.Post {
	n := (((uint32(l.Class)<<8|uint32(l.Slot))<<11|uint32(l.Stream))<<5 | uint32(l.Node)) << 3
	p := api.Post{Frame: api.Frame{Id: api.Ident{Ext: true, N: n}, Len: bytes}, Tag: tag}
	for i := range bytes {
		p.Frame.Data[i] = full[i]
	}
	return p
}

func TestNew(t *testing.T) { // P28.1: stream.Check's errors, and behind these queue.New's
	rooms := []int{0, -1, -64, api.MaxQueue + 1, 1 << 32, 1<<32 + 1, math.MaxInt, math.MinInt}
	changed := func(i int, f func(s *api.Stream)) []api.Stream {
		l := slices.Clone(streams)
		f(&l[i])
		return l
	}
	var many []api.Stream
	for i := range api.MaxStreams + 1 {
		many = append(many, api.Stream{Id: i, Class: api.DmClass, Period: 1, Deadline: 1})
	}
	for _, c := range []struct {
		l      []api.Stream
		length int64
		want   api.Errno
	}{
		{many, length, api.ErrLong}, {many, 0, api.ErrLong}, {streams, 0, api.ErrRange}, {streams, -1, api.ErrRange}, {streams, api.MaxSpan + 1, api.ErrRange}, {nil, 0, api.ErrRange}, {streams, math.MinInt64, api.ErrRange}, {nil, math.MaxInt64, api.ErrRange},
		{changed(0, func(s *api.Stream) { s.Class = 0 }), length, api.ErrKind}, {changed(5, func(s *api.Stream) { s.Class = 4 }), length, api.ErrKind}, // also of another node's
		{changed(1, func(s *api.Stream) { s.Node = api.MaxNodes }), length, api.ErrRange}, {changed(2, func(s *api.Stream) { s.Deadline = 1001 }), length, api.ErrRange}, {changed(3, func(s *api.Stream) { s.Slot = 256 }), length, api.ErrRange},
		{changed(4, func(s *api.Stream) { s.Bytes = 9 }), length, api.ErrLen}, {changed(4, func(s *api.Stream) { s.Id = 5 }), length, api.ErrTwice}, {streams, 501, api.ErrOver},
		{streams, 500, api.OK}, {streams, 1, api.OK}, {nil, 1, api.OK}, {nil, api.MaxSpan, api.OK}, {many[:api.MaxStreams], api.MaxSpan, api.OK},
	} {
		given := slices.Clone(c.l)
		for _, node := range []int{0, 1, 2, 31, 32, -1, math.MaxInt, math.MinInt} {
			for _, room := range append(rooms, 1, 2, api.MaxQueue) {
				want := c.want
				if want == api.OK && slices.Contains(rooms, room) {
					want = api.ErrRange
				}
				s, errno := sched.New(node, c.l, c.length, room)
				if (s != nil) != (want == api.OK) || errno != want {
					t.Errorf("New(%d, %v, %d, %d) = %v, %d; want %d", node, c.l, c.length, room, s, errno, want)
				}
			}
		}
		if !slices.Equal(c.l, given) { // P3
			t.Errorf("%v became %v", given, c.l)
		}
	}
}

func TestNewIsEmpty(t *testing.T) { // P28.1
	for _, room := range []int{1, 2, api.MaxQueue} {
		s := made(t, room)
		nothing(t, s)
		if s.Promote(0) || s.Promote(99) || s.Epoch() != 0 { // 0 is the epoch at first
			t.Errorf("the epoch is %d", s.Epoch())
		}
	}
}

// nothing fails if a frame waits, or something became of one.
func nothing(t *testing.T, s *sched.Sched) {
	t.Helper()
	if p, ok := s.Head(); p != (api.Post{}) || ok {
		t.Fatalf("Head() = %v, %v", p, ok)
	}
	waits(t, s)
	fates(t, s)
	for _, tag := range []int{0, 1, -1, api.TurnTag, api.FollowTag, 64, math.MaxInt, math.MinInt} {
		if j, ok := s.Job(tag); j != (api.Job{}) || ok {
			t.Fatalf("Job(%d) = %v, %v", tag, j, ok)
		}
		if l, ok := s.Label(tag); l != (api.Label{}) || ok {
			t.Fatalf("Label(%d) = %v, %v", tag, l, ok)
		}
		for _, now := range times {
			ends(t, "Cancel", s.Cancel(tag, now), api.ErrNone)
			ends(t, "Sent", s.Sent(tag, now), api.ErrNone)
		}
	}
	for _, now := range times {
		if n := s.Tick(now); n != 0 {
			t.Fatalf("Tick(%d) = %d", now, n)
		}
		s.Crash(now)
	}
	fates(t, s)
	waits(t, s)
}

func TestNil(t *testing.T) { // P28.3
	for _, s := range []*sched.Sched{nil, {}} { // P1: nor does one that New did not make have anything
		for _, id := range []int{0, 3, -1, math.MaxInt, math.MinInt} {
			for _, now := range append(times, noTimes...) {
				refuses(t, s, id, now, api.ErrNone)
			}
		}
		for _, now := range append(times, noEpochs...) {
			if s.Promote(now) {
				t.Errorf("Promote(%d)", now)
			}
		}
		nothing(t, s)
		if s.Epoch() != 0 {
			t.Errorf("Epoch() = %d", s.Epoch())
		}
	}
}

func TestRelease(t *testing.T) { // P28.1: tags count what was taken in, not what was refused
	s := made(t, api.MaxQueue)
	want := 0
	for _, now := range []int64{0, 1, 10, 99, 100, 1 << 40, 1<<50 - 1, 1 << 50} {
		for _, own := range []int{3, 4, 5, 6} {
			releases(t, s, own, now, want)
			want++
			for _, id := range []int{9, 0, 1, 2, 7, -1, 2047, 2048, 1<<32 + 3, math.MaxInt, math.MinInt} { // another node's, and nobody's
				refuses(t, s, id, now, api.ErrNone)
			}
			for _, other := range noTimes {
				refuses(t, s, own, other, api.ErrRange)
				refuses(t, s, 9, other, api.ErrNone) // ahead of a time that can't be
			}
		}
	}
	all := s.Waits()
	if len(all) != want {
		t.Errorf("%d wait; want %d", len(all), want)
	}
	fates(t, s)
	for _, x := range streams {
		if x.Node == 1 {
			continue
		}
		s, _ := sched.New(x.Node, streams, length, 1)
		releases(t, s, x.Id, 0, 0)
		refuses(t, s, 3, 0, api.ErrNone)
	}
	for _, node := range []int{3, 31, 32, -1} { // such have no streams
		s, _ := sched.New(node, streams, length, 1)
		for _, x := range streams {
			refuses(t, s, x.Id, 0, api.ErrNone)
		}
	}
}

func TestFull(t *testing.T) { // P28.1, P28.7
	for _, room := range []int{1, 2, 3, 17, api.MaxQueue - 1, api.MaxQueue} {
		s := made(t, room)
		var all []int
		for i := range room {
			releases(t, s, 3, int64(i), i)
			all = append(all, i)
		}
		head, _ := s.Head()
		for _, id := range []int{3, 4, 5} {
			refuses(t, s, id, 0, api.ErrFull)
			refuses(t, s, id, -1, api.ErrRange) // ahead of what is full
		}
		refuses(t, s, 9, 0, api.ErrNone)
		waits(t, s, all...)
		heads(t, s, head)
		ends(t, "Cancel", s.Cancel(all[room/2], 7), api.OK)
		releases(t, s, 3, 0, room) // the next tag
		refuses(t, s, 3, 0, api.ErrFull)
		waits(t, s, append(slices.Delete(slices.Clone(all), room/2, room/2+1), room)...)
		fates(t, s, api.Outcome{Tag: all[room/2], Fate: api.Cancelled, At: 7})
	}
}

func TestData(t *testing.T) { // P28.1: what is behind Bytes is 0 instead
	for bytes := range 9 {
		x := streams[2]
		x.Bytes = bytes
		s, _ := sched.New(1, []api.Stream{x}, length, 2)
		data := full
		if tag, errno := s.Release(3, data, 0); tag != 0 || errno != api.OK {
			t.Fatalf("Release: %d, %d", tag, errno)
		}
		data[0] = 77
		heads(t, s, post(due(5), bytes, 0))
		if tag, errno := s.Release(3, [8]byte{}, 0); tag != 1 || errno != api.OK { // each has its own
			t.Fatalf("Release: %d, %d", tag, errno)
		}
		heads(t, s, post(due(5), bytes, 0))
		ends(t, "Sent", s.Sent(0, 0), api.OK)
		want := post(due(5), bytes, 1)
		want.Frame.Data = [8]byte{}
		heads(t, s, want)
		if j, ok := s.Job(1); j != (api.Job{Stream: 3, Deadline: 500, Cost: int64(80 + 10*bytes)}) || !ok {
			t.Errorf("Job(1) = %v, %v", j, ok)
		}
	}
}

func TestCancelAndSent(t *testing.T) { // P28.1, P28.2
	cancel := func(s *sched.Sched, tag int, now int64) api.Errno { return s.Cancel(tag, now) }
	sent := func(s *sched.Sched, tag int, now int64) api.Errno { return s.Sent(tag, now) }
	for _, c := range []struct {
		name string
		end  func(s *sched.Sched, tag int, now int64) api.Errno
		fate api.Fate
	}{{"Cancel", cancel, api.Cancelled}, {"Sent", sent, api.Delivered}} {
		for _, now := range times {
			s := made(t, 4)
			for i := range 4 {
				releases(t, s, []int{5, 3, 4, 3}[i], 10, i)
			}
			for _, tag := range []int{4, -1, -2, 5, 64, math.MaxInt, math.MinInt} { // never was
				ends(t, c.name, c.end(s, tag, now), api.ErrNone)
			}
			waits(t, s, 0, 1, 2, 3)
			ends(t, c.name, c.end(s, 2, now), api.OK)
			waits(t, s, 0, 1, 3)
			for range 2 { // waits no more
				ends(t, "Cancel", s.Cancel(2, now), api.ErrNone)
				ends(t, "Sent", s.Sent(2, now), api.ErrNone)
			}
			waits(t, s, 0, 1, 3)
			heads(t, s, post(due(5), 8, 1))
			ends(t, c.name, c.end(s, 1, now), api.OK)
			heads(t, s, post(due(5), 8, 3))
			ends(t, c.name, c.end(s, 3, now), api.OK)
			heads(t, s, post(api.Label{Class: api.FixedClass, Slot: 7, Stream: 5, Node: 1}, 0, 0))
			ends(t, c.name, c.end(s, 0, now), api.OK)
			fates(t, s, api.Outcome{Tag: 2, Fate: c.fate, At: now}, api.Outcome{Tag: 1, Fate: c.fate, At: now}, api.Outcome{Tag: 3, Fate: c.fate, At: now}, api.Outcome{Tag: 0, Fate: c.fate, At: now})
			nothing(t, s)
			releases(t, s, 3, 10, 4)
		}
	}
}

func TestPromote(t *testing.T) { // P28.2
	s := made(t, 8)
	releases(t, s, 3, 10, 0)   // due at 510
	releases(t, s, 3, 1110, 1) // 1610
	releases(t, s, 4, 10, 2)
	releases(t, s, 5, 10, 3)
	releases(t, s, 6, 10, 4) // 40010
	is := func(epoch int64, first, second, far int) {
		t.Helper()
		if s.Epoch() != epoch {
			t.Fatalf("Epoch() = %d; want %d", s.Epoch(), epoch)
		}
		labels(t, s, 0, due(first))
		labels(t, s, 1, due(second))
		labels(t, s, 2, api.Label{Class: api.DmClass, Slot: 2, Stream: 4, Node: 1})
		labels(t, s, 3, api.Label{Class: api.FixedClass, Slot: 7, Stream: 5, Node: 1})
		labels(t, s, 4, api.Label{Class: api.EdfClass, Slot: far, Stream: 6, Node: 1})
		heads(t, s, post(due(first), 8, 0))
		waits(t, s, 0, 1, 2, 3, 4)
	}
	is(0, 5, 16, 255)
	for _, c := range []struct {
		now                int64
		want               bool
		epoch              int64
		first, second, far int
	}{
		{99, false, 0, 5, 16, 255}, {0, false, 0, 5, 16, 255}, // the epoch that there is
		{100, true, 100, 4, 15, 255}, {199, false, 100, 4, 15, 255}, {100, false, 100, 4, 15, 255},
		{599, true, 500, 0, 11, 255}, {600, true, 600, 0, 10, 255}, {1699, true, 1600, 0, 0, 255}, {1700, true, 1700, 0, 0, 255}, // a later one
		{14400, true, 14400, 0, 0, 255}, {14510, true, 14500, 0, 0, 255}, {14610, true, 14600, 0, 0, 254}, {39999, true, 39900, 0, 0, 1}, {40000, true, 40000, 0, 0, 0},
		{299, true, 200, 3, 14, 255}, {0, true, 0, 5, 16, 255}, // an earlier one
		{-1, true, -100, 6, 17, 255}, {-100, false, -100, 6, 17, 255}, {-101, true, -200, 7, 18, 255}, {-1 << 40, true, -1<<40 - 24, 255, 255, 255},
		{1 << 60, true, 1<<60 - 76, 0, 0, 0}, {50, true, 0, 5, 16, 255},
	} {
		if got := s.Promote(c.now); got != c.want {
			t.Fatalf("Promote(%d) = %v", c.now, got)
		}
		is(c.epoch, c.first, c.second, c.far)
		for _, now := range noEpochs { // a time that can't be
			if s.Promote(now) {
				t.Fatalf("Promote(%d)", now)
			}
			is(c.epoch, c.first, c.second, c.far)
		}
	}
	fates(t, s)
}

func TestReleaseBehindPromote(t *testing.T) { // P28.1: labelled by the epoch that there is
	s := made(t, 8)
	if !s.Promote(1234) || s.Epoch() != 1200 {
		t.Fatalf("Epoch() = %d", s.Epoch())
	}
	releases(t, s, 3, 1234, 0) // due at 1734
	releases(t, s, 3, 10, 1)   // 510
	releases(t, s, 6, 1<<50, 2)
	labels(t, s, 0, due(5))
	labels(t, s, 1, due(0))
	labels(t, s, 2, api.Label{Class: api.EdfClass, Slot: 255, Stream: 6, Node: 1})
	heads(t, s, post(due(0), 8, 1))
}

func TestEpochTooFar(t *testing.T) { // P28.2: ahead of all times there are no slots: what waits stays as it is, and nothing is taken in
	s := made(t, 8)
	releases(t, s, 3, 10, 0)
	if !s.Promote(-1<<60) || s.Epoch() != -1<<60-24 {
		t.Fatalf("Epoch() = %d", s.Epoch())
	}
	labels(t, s, 0, due(5))
	waits(t, s, 0)
	for _, id := range []int{3, 4, 5} {
		refuses(t, s, id, 10, api.ErrRange)
	}
	refuses(t, s, 9, 10, api.ErrNone)
	waits(t, s, 0)
	if !s.Promote(100) {
		t.Fatal("Promote(100)")
	}
	labels(t, s, 0, due(4))
	releases(t, s, 3, 10, 1)
}

func TestTick(t *testing.T) { // P28.2: at a Deadline, and one bit behind it
	s := made(t, 8)
	releases(t, s, 5, 10, 0)  // due at 2510
	releases(t, s, 3, 110, 1) // 610
	releases(t, s, 4, 10, 2)  // 810
	releases(t, s, 3, 10, 3)  // 510
	releases(t, s, 3, 310, 4) // 810
	releases(t, s, 6, 0, 5)   // 40000
	ticks := func(now int64, want int) {
		t.Helper()
		if got := s.Tick(now); got != want {
			t.Fatalf("Tick(%d) = %d; want %d", now, got, want)
		}
	}
	for _, now := range []int64{0, -1, math.MinInt64, 510} {
		ticks(now, 0)
	}
	waits(t, s, 0, 1, 2, 3, 4, 5)
	fates(t, s)
	ticks(511, 1)
	waits(t, s, 0, 1, 2, 4, 5)
	ticks(511, 0)
	ticks(0, 0)
	fates(t, s, api.Outcome{Tag: 3, Fate: api.Missed, At: 511})
	ticks(810, 1)
	ticks(811, 2) // of other classes, too
	waits(t, s, 0, 5)
	fates(t, s, api.Outcome{Tag: 1, Fate: api.Missed, At: 810}, api.Outcome{Tag: 2, Fate: api.Missed, At: 811}, api.Outcome{Tag: 4, Fate: api.Missed, At: 811})
	releases(t, s, 3, 10, 6)
	ends(t, "Sent", s.Sent(6, 99999), api.OK) // no Tick came while it waited
	ticks(math.MaxInt64, 2)
	fates(t, s, api.Outcome{Tag: 6, Fate: api.Delivered, At: 99999}, api.Outcome{Tag: 0, Fate: api.Missed, At: math.MaxInt64}, api.Outcome{Tag: 5, Fate: api.Missed, At: math.MaxInt64})
	nothing(t, s)
}

func TestTickBySlots(t *testing.T) { // P28.2: by their tags, whatever the order in which they are sent
	s := made(t, api.MaxQueue)
	var want []api.Outcome
	for i := range api.MaxQueue {
		releases(t, s, 3, int64(100*(api.MaxQueue-i)), i)
		want = append(want, api.Outcome{Tag: i, Fate: api.Missed, At: 10000})
	}
	if n := s.Tick(10000); n != api.MaxQueue {
		t.Errorf("Tick(10000) = %d", n)
	}
	fates(t, s, want...)
}

func TestCrash(t *testing.T) { // P28.2
	for _, now := range times {
		s := made(t, 8)
		s.Crash(now)
		nothing(t, s)
		s.Promote(100)
		for i, id := range []int{5, 3, 4, 6, 3} {
			releases(t, s, id, int64(100-10*i), i)
		}
		ends(t, "Cancel", s.Cancel(1, 7), api.OK)
		s.Crash(now)
		waits(t, s)
		fates(t, s, api.Outcome{Tag: 1, Fate: api.Cancelled, At: 7}, api.Outcome{Tag: 0, Fate: api.Crashed, At: now}, api.Outcome{Tag: 2, Fate: api.Crashed, At: now}, api.Outcome{Tag: 3, Fate: api.Crashed, At: now}, api.Outcome{Tag: 4, Fate: api.Crashed, At: now})
		nothing(t, s)
		releases(t, s, 3, 10, 5) // tags go on, and so does the epoch
		labels(t, s, 5, due(4))
	}
}

func TestHead(t *testing.T) { // P28.3: of each class
	s := made(t, 8)
	if p, ok := s.Head(); p != (api.Post{}) || ok {
		t.Errorf("Head() = %v, %v", p, ok)
	}
	fixed, ranked := api.Label{Class: api.FixedClass, Slot: 7, Stream: 5, Node: 1}, api.Label{Class: api.DmClass, Slot: 2, Stream: 4, Node: 1}
	releases(t, s, 5, 0, 0)
	heads(t, s, post(fixed, 0, 0))
	releases(t, s, 4, 0, 1)
	heads(t, s, post(ranked, 3, 1))
	releases(t, s, 6, 0, 2) // due at 40000
	heads(t, s, post(api.Label{Class: api.EdfClass, Slot: 255, Stream: 6, Node: 1}, 5, 2))
	releases(t, s, 3, 1<<50, 3) // later still, but of a lesser stream, and both are far
	heads(t, s, post(due(255), 8, 3))
	releases(t, s, 3, 600, 4)
	heads(t, s, post(due(11), 8, 4))
	releases(t, s, 3, 600, 5) // alike: the lesser tag
	for range 3 {
		heads(t, s, post(due(11), 8, 4))
	}
	releases(t, s, 3, 500, 6) // the one that is due first (example 1)
	heads(t, s, post(due(10), 8, 6))
	for _, tag := range []int{6, 4, 5, 3, 2} {
		heads(t, s, heading(t, s, tag))
		ends(t, "Sent", s.Sent(tag, 0), api.OK)
	}
	heads(t, s, post(ranked, 3, 1))
	ends(t, "Sent", s.Sent(1, 0), api.OK)
	heads(t, s, post(fixed, 0, 0))
}

// heading is what the post of one that waits must be.
func heading(t *testing.T, s *sched.Sched, tag int) api.Post {
	t.Helper()
	l, ok := s.Label(tag)
	j, there := s.Job(tag)
	if !ok || !there {
		t.Fatalf("%d does not wait", tag)
	}
	return post(l, int(j.Cost-80)/10, tag)
}

func TestJob(t *testing.T) { // P28.3
	s := made(t, 8)
	for tag, want := range []api.Job{{Stream: 3, Release: 10, Deadline: 510, Cost: 160}, {Stream: 4, Release: 0, Deadline: 800, Cost: 110}, {Stream: 5, Release: 1 << 50, Deadline: 1<<50 + 2500, Cost: 80}, {Stream: 6, Release: 7, Deadline: 40007, Cost: 130}} {
		releases(t, s, want.Stream, want.Release, tag)
		if got, ok := s.Job(tag); got != want || !ok {
			t.Errorf("Job(%d) = %v, %v; want %v", tag, got, ok, want)
		}
		if got, ok := s.Job(tag + 1); got != (api.Job{}) || ok {
			t.Errorf("Job(%d) = %v, %v", tag+1, got, ok)
		}
	}
	s.Promote(5000) // what a frame is does not change
	if got, ok := s.Job(0); got != (api.Job{Stream: 3, Release: 10, Deadline: 510, Cost: 160}) || !ok {
		t.Errorf("Job(0) = %v, %v", got, ok)
	}
	ends(t, "Cancel", s.Cancel(0, 0), api.OK)
	if got, ok := s.Job(0); got != (api.Job{}) || ok {
		t.Errorf("Job(0) = %v, %v", got, ok)
	}
	if got, ok := s.Label(0); got != (api.Label{}) || ok {
		t.Errorf("Label(0) = %v, %v", got, ok)
	}
}

func TestTheCallers(t *testing.T) { // P3: what was told does not change with the scheduler, nor it with that, nor with the streams
	given := slices.Clone(streams)
	s, _ := sched.New(1, given, length, 8)
	for i := range given {
		given[i] = api.Stream{}
	}
	for i := range 4 {
		releases(t, s, 3, 10, i)
	}
	all := s.Waits()
	ends(t, "Cancel", s.Cancel(0, 1), api.OK)
	ends(t, "Sent", s.Sent(2, 2), api.OK)
	told := s.Fates()
	if !slices.Equal(all, []int{0, 1, 2, 3}) {
		t.Errorf("what was told is %v", all)
	}
	all = s.Waits()
	all[0], all[1] = 77, 78
	waits(t, s, 1, 3)
	_ = append(told[:1], api.Outcome{Tag: 9})
	told[0] = api.Outcome{Tag: 8}
	s.Crash(3)
	if want := []api.Outcome{{Tag: 8}, {Tag: 9}}; !slices.Equal(told, want) {
		t.Errorf("what was told is %v", told)
	}
	fates(t, s, api.Outcome{Tag: 1, Fate: api.Crashed, At: 3}, api.Outcome{Tag: 3, Fate: api.Crashed, At: 3})
}

func TestApart(t *testing.T) { // P5: schedulers have nothing in common
	a, b := made(t, 2), made(t, 2)
	releases(t, a, 3, 10, 0)
	releases(t, a, 3, 10, 1)
	nothing(t, b)
	releases(t, b, 4, 10, 0)
	a.Promote(500)
	a.Crash(5)
	waits(t, b, 0)
	fates(t, b)
	if b.Epoch() != 0 {
		t.Errorf("Epoch() = %d", b.Epoch())
	}
}
