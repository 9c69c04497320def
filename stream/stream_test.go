package stream_test

import (
	"math"
	"math/rand"
	"slices"
	"testing"

	"bellbuoy/api"
	"bellbuoy/frame"
	"bellbuoy/stream"
	"bellbuoy/wire"
)

// base is one that can be: all others of these tests are like it but for what they say.
var base = api.Stream{Id: 9, Node: 1, Class: api.EdfClass, Period: 1000, Deadline: 500, Slot: 3, Bytes: 8}

// but is a stream that is another one in a few things.
func but(s api.Stream, changes ...func(*api.Stream)) api.Stream {
	for _, change := range changes {
		change(&s)
	}
	return s
}

func id(n int) func(*api.Stream)         { return func(s *api.Stream) { s.Id = n } }
func node(n int) func(*api.Stream)       { return func(s *api.Stream) { s.Node = n } }
func of(c api.Class) func(*api.Stream)   { return func(s *api.Stream) { s.Class = c } }
func period(n int64) func(*api.Stream)   { return func(s *api.Stream) { s.Period = n } }
func deadline(n int64) func(*api.Stream) { return func(s *api.Stream) { s.Deadline = n } }
func slot(n int) func(*api.Stream)       { return func(s *api.Stream) { s.Slot = n } }
func bytes(n int) func(*api.Stream)      { return func(s *api.Stream) { s.Bytes = n } }
func times(p, deadline int64) func(*api.Stream) {
	return func(s *api.Stream) { s.Period, s.Deadline = p, deadline }
}

// What can be in one part, and what can't: the bounds, one outside each, and such as have the lowest bits of one that can.
var (
	classes   = []api.Class{api.EdfClass, api.DmClass, api.FixedClass}
	noClasses = []api.Class{api.SyncClass, -1, -2, 4, 5, 256, 1 << 32, 1<<32 + 1, math.MaxInt, math.MinInt, math.MinInt + 1}
	slots     = []int{0, 1, 3, 254, api.LastSlot}
	noSlots   = []int{-1, -255, api.LastSlot + 1, 1 << 32, 1<<32 + 3, math.MaxInt, math.MinInt, math.MinInt + 3}
	ids       = []int{0, 1, 9, 2046, api.MaxStream}
	noIds     = []int{-1, -9, api.MaxStream + 1, 1 << 32, 1<<32 + 9, math.MaxInt, math.MinInt, math.MinInt + 9}
	nodes     = []int{0, 1, 30, api.MaxNodes - 1}
	noNodes   = []int{-1, -31, api.MaxNodes, 1 << 32, 1<<32 + 1, math.MaxInt, math.MinInt, math.MinInt + 1}
	sizes     = []int{0, 1, 2, 3, 4, 5, 6, 7, 8}
	noSizes   = []int{-1, -8, 9, 10, 1 << 32, 1<<32 + 8, math.MaxInt, math.MinInt, math.MinInt + 8}
	spans     = [][2]int64{{1, 1}, {2, 1}, {2, 2}, {1000, 1}, {1000, 500}, {1000, 999}, {1000, 1000}, {api.MaxSpan - 1, 1}, {api.MaxSpan, 1}, {api.MaxSpan, api.MaxSpan - 1}, {api.MaxSpan, api.MaxSpan}}
	noSpans   = [][2]int64{
		{0, 0}, {0, 1}, {1, 0}, {1000, 0}, {1, 2}, {1000, 1001}, {-1, 1}, {1000, -1}, {-1, -1}, {-1, -2}, {500, 501}, {api.MaxSpan - 1, api.MaxSpan},
		{api.MaxSpan + 1, 500}, {api.MaxSpan + 1, api.MaxSpan}, {api.MaxSpan + 1, api.MaxSpan + 1}, {api.MaxSpan, api.MaxSpan + 1}, {1<<32 + 1000, 500}, {1000, 1<<32 + 500},
		{math.MaxInt64, 500}, {math.MaxInt64, math.MaxInt64}, {1000, math.MaxInt64}, {math.MinInt64, 500}, {1000, math.MinInt64}, {math.MinInt64, math.MinInt64},
	}
)

// lengths are those that slots may have, noLengths are not.
var (
	lengths   = []int64{1, 2, 100, api.MaxSpan - 1, api.MaxSpan}
	noLengths = []int64{0, -1, -100, api.MaxSpan + 1, 1 << 32, 1<<32 + 1, 1 << 40, math.MaxInt64, math.MinInt64, math.MinInt64 + 1}
)

// rights is streams that can be.
func rights() []api.Stream {
	var list []api.Stream
	for _, c := range classes {
		for _, n := range slots {
			list = append(list, but(base, of(c), slot(n)))
		}
		for _, n := range ids {
			list = append(list, but(base, of(c), id(n)))
		}
		for _, n := range nodes {
			list = append(list, but(base, of(c), node(n)))
		}
		for _, n := range spans {
			list = append(list, but(base, of(c), times(n[0], n[1])))
		}
		for _, n := range sizes {
			list = append(list, but(base, of(c), bytes(n)))
		}
		list = append(list, but(base, of(c), slot(0), id(0), node(0), times(1, 1), bytes(0)), but(base, of(c), slot(255), id(2047), node(31), times(1<<30, 1<<30)))
	}
	return list
}

// fault is a stream that can't be, and what is wrong with it.
type fault struct {
	s    api.Stream
	want api.Errno
}

// wrongs is streams that can't be: one thing that is wrong, and what else may be as well without being told.
func wrongs() []fault {
	list := []fault{{api.Stream{}, api.ErrKind}, {api.Stream{Class: api.EdfClass}, api.ErrRange}}
	longs := []func(*api.Stream){bytes(8), bytes(0), bytes(9), bytes(-1)}
	for _, c := range noClasses {
		list = append(list, fault{but(base, of(c)), api.ErrKind}, fault{but(base, of(c), slot(256)), api.ErrKind}, fault{but(base, of(c), times(0, 0)), api.ErrKind}, fault{but(base, of(c), bytes(9)), api.ErrKind})
	}
	for _, c := range classes {
		for _, long := range longs {
			for _, n := range noSlots {
				list = append(list, fault{but(base, of(c), slot(n), long), api.ErrRange})
			}
			for _, n := range noIds {
				list = append(list, fault{but(base, of(c), id(n), long), api.ErrRange})
			}
			for _, n := range noNodes {
				list = append(list, fault{but(base, of(c), node(n), long), api.ErrRange})
			}
			for _, n := range noSpans {
				list = append(list, fault{but(base, of(c), times(n[0], n[1]), long), api.ErrRange})
			}
		}
		for _, n := range noSizes {
			list = append(list, fault{but(base, of(c), bytes(n)), api.ErrLen})
		}
	}
	return list
}

func TestRight(t *testing.T) { // P25.1
	for _, s := range rights() {
		if errno := stream.Right(s); errno != api.OK {
			t.Errorf("Right(%v) = %d", s, errno)
		}
	}
	for _, f := range wrongs() {
		if errno := stream.Right(f.s); errno != f.want {
			t.Errorf("Right(%v) = %d; want %d", f.s, errno, f.want)
		}
	}
}

// right is what P25.1 asks, one thing behind the other.
func right(s api.Stream) api.Errno {
	if s.Class != api.EdfClass && s.Class != api.DmClass && s.Class != api.FixedClass {
		return api.ErrKind
	}
	if s.Slot < 0 || s.Slot > 255 || s.Id < 0 || s.Id > 2047 || s.Node < 0 || s.Node > 31 {
		return api.ErrRange
	}
	if s.Period < 1 || s.Period > 1<<30 || s.Deadline < 1 || s.Deadline > 1<<30 || s.Deadline > s.Period {
		return api.ErrRange
	}
	if s.Bytes < 0 || s.Bytes > 8 {
		return api.ErrLen
	}
	return api.OK
}

// pick is one of a list; one of those of another one, if the part is to be wrong.
func pick[T any](chance *rand.Rand, list, others []T) T {
	if chance.Intn(24) == 0 {
		list = others
	}
	return list[chance.Intn(len(list))]
}

// anyStream is one whose parts are bounds, some of them wrong.
func anyStream(chance *rand.Rand) api.Stream {
	span := pick(chance, spans, noSpans)
	return api.Stream{
		Id: pick(chance, ids, noIds), Node: pick(chance, nodes, noNodes), Class: pick(chance, classes, noClasses),
		Period: span[0], Deadline: span[1], Slot: pick(chance, slots, noSlots), Bytes: pick(chance, sizes, noSizes),
	}
}

func TestRightOfAny(t *testing.T) { // P25.1
	chance := rand.New(rand.NewSource(131))
	counts := map[api.Errno]int{}
	for range 50000 {
		s := anyStream(chance)
		want := right(s)
		counts[want]++
		if errno := stream.Right(s); errno != want {
			t.Fatalf("Right(%v) = %d; want %d", s, errno, want)
		}
	}
	for _, errno := range []api.Errno{api.OK, api.ErrKind, api.ErrRange, api.ErrLen} {
		if counts[errno] < 500 {
			t.Errorf("just %d answers of %d", counts[errno], errno)
		}
	}
}

// checks fails unless Check answers this, and leaves the list as it was.
func checks(t *testing.T, l []api.Stream, length int64, at int, want api.Errno) {
	t.Helper()
	given := slices.Clone(l)
	if got, errno := stream.Check(l, length); got != at || errno != want {
		t.Fatalf("Check(%v, %d) = %d, %d; want %d, %d", l, length, got, errno, at, want)
	}
	if !slices.Equal(l, given) { // P3
		t.Fatalf("%v became %v", given, l)
	}
}

// row is so many streams that can be together.
func row(many int) []api.Stream {
	var l []api.Stream
	for i := range many {
		l = append(l, but(base, id(i), node(i%api.MaxNodes), of(classes[i%3])))
	}
	return l
}

func TestCheckHowMany(t *testing.T) { // P25.1
	for many := range api.MaxStreams + 1 {
		checks(t, row(many), 100, many, api.OK)
	}
	checks(t, nil, 100, 0, api.OK)
	checks(t, []api.Stream{}, 100, 0, api.OK)
	for _, many := range []int{api.MaxStreams + 1, api.MaxStreams + 2, 2000} {
		l := row(many)
		checks(t, l, 100, 0, api.ErrLong)
		for _, length := range noLengths { // that there are too many is told ahead of all
			checks(t, l, length, 0, api.ErrLong)
		}
		l[1].Class = api.SyncClass
		l[2].Id = 0
		checks(t, l, 100, 0, api.ErrLong)
		checks(t, l, 501, 0, api.ErrLong)
		checks(t, slices.Repeat([]api.Stream{{}}, many), 100, 0, api.ErrLong)
	}
}

func TestCheckLength(t *testing.T) { // P25.1
	long := but(base, times(api.MaxSpan, api.MaxSpan))
	for _, length := range lengths {
		checks(t, nil, length, 0, api.OK)
		checks(t, []api.Stream{long}, length, 1, api.OK)
		checks(t, []api.Stream{long, but(long, id(10), of(api.DmClass), times(1, 1)), but(long, id(11))}, length, 3, api.OK)
	}
	for _, length := range noLengths { // ahead of all that may be wrong with streams
		checks(t, nil, length, 0, api.ErrRange)
		checks(t, []api.Stream{long}, length, 0, api.ErrRange)
		checks(t, row(api.MaxStreams), length, 0, api.ErrRange)
		for _, f := range wrongs() {
			checks(t, []api.Stream{base, f.s, base}, length, 0, api.ErrRange)
		}
		checks(t, []api.Stream{long, base, base}, length, 0, api.ErrRange)
	}
}

func TestCheckPlace(t *testing.T) { // P25.1: where the first one is that can't be, whatever is wrong with those behind it
	for _, f := range wrongs() {
		for _, at := range []int{0, 1, 7, 63} {
			l := row(api.MaxStreams)
			l[at] = f.s
			checks(t, l, 100, at, f.want)
			if at < 63 {
				l[63].Class = api.SyncClass
				checks(t, l, 100, at, f.want)
			}
			if at > 1 { // and whatever else is wrong ahead of it
				l[1] = l[0]
				checks(t, l, 100, at, f.want)
				l[0].Deadline = 1
				checks(t, l, 100, at, f.want)
			}
		}
	}
}

func TestCheckTwice(t *testing.T) { // P25.1
	late := but(base, deadline(99))
	for _, c := range []struct {
		l    []api.Stream
		at   int
		want api.Errno
	}{
		{[]api.Stream{base, base}, 1, api.ErrTwice},
		{[]api.Stream{base, but(base, id(1)), base}, 2, api.ErrTwice},
		{[]api.Stream{but(base, id(0)), but(base, id(1)), but(base, id(1)), but(base, id(0))}, 2, api.ErrTwice}, // the first one that was there
		{[]api.Stream{but(base, id(0)), but(base, id(1)), but(base, id(0)), but(base, id(1))}, 2, api.ErrTwice},
		{[]api.Stream{base, base, base}, 1, api.ErrTwice},
		{[]api.Stream{base, api.Stream{Id: 9, Node: 2, Class: api.FixedClass, Period: 1, Deadline: 1}}, 1, api.ErrTwice}, // alike in nothing else
		{[]api.Stream{but(base, id(0)), but(base, id(1)), but(base, id(2)), but(base, id(2))}, 3, api.ErrTwice},
		{[]api.Stream{late}, 0, api.ErrOver},
		{[]api.Stream{base, but(late, id(1)), but(late, id(2))}, 1, api.ErrOver},
		{[]api.Stream{base, but(base, id(1)), but(late, id(2))}, 2, api.ErrOver},
		{[]api.Stream{late, base}, 1, api.ErrTwice}, // that one is there twice is told first
		{[]api.Stream{late, but(late, id(1)), but(base, id(2)), but(base, id(2))}, 3, api.ErrTwice},
		{[]api.Stream{late, late, but(base, of(api.SyncClass))}, 2, api.ErrKind}, // and ahead of both what can't be
		{[]api.Stream{late, late, but(base, bytes(9))}, 2, api.ErrLen},
		{[]api.Stream{base, but(base, slot(-1)), but(base, of(4))}, 1, api.ErrRange},
		{[]api.Stream{base, but(base, bytes(9)), but(base, of(4))}, 1, api.ErrLen},                  // the first one that can't be, not the first error
		{[]api.Stream{but(late, of(api.DmClass)), but(late, of(api.FixedClass), id(1))}, 2, api.OK}, // of other classes none is late
		{[]api.Stream{but(late, of(api.DmClass)), but(late, id(1))}, 1, api.ErrOver},
		{[]api.Stream{but(base, deadline(100)), but(base, id(1), deadline(101))}, 2, api.OK},
	} {
		checks(t, c.l, 100, c.at, c.want)
	}
}

func TestCheckOver(t *testing.T) { // P25.1: a slot is not longer than a deadline
	for _, n := range []int64{1, 2, 99, 100, 101, 500, api.MaxSpan - 1, api.MaxSpan} {
		for _, c := range classes {
			l := []api.Stream{but(base, of(c), times(api.MaxSpan, n))}
			for _, length := range []int64{1, n - 1, n, n + 1, api.MaxSpan} {
				switch {
				case length < 1 || length > api.MaxSpan:
					checks(t, l, length, 0, api.ErrRange)
				case c == api.EdfClass && length > n:
					checks(t, l, length, 0, api.ErrOver)
				default:
					checks(t, l, length, 1, api.OK)
				}
			}
		}
	}
}

// first is what P25.1 asks of several.
func first(l []api.Stream, length int64) (int, api.Errno) {
	if len(l) > 64 {
		return 0, api.ErrLong
	}
	if length < 1 || length > 1<<30 {
		return 0, api.ErrRange
	}
	for i := range l {
		if errno := right(l[i]); errno != api.OK {
			return i, errno
		}
	}
	seen := map[int]int{}
	for i := range l {
		if seen[l[i].Id]++; seen[l[i].Id] > 1 {
			return i, api.ErrTwice
		}
	}
	for i := range l {
		if l[i].Class == api.EdfClass && l[i].Deadline < length {
			return i, api.ErrOver
		}
	}
	return len(l), api.OK
}

func TestCheckOfAny(t *testing.T) { // P25.1
	chance := rand.New(rand.NewSource(132))
	counts := map[api.Errno]int{}
	for range 20000 {
		l := row(chance.Intn(12))
		if chance.Intn(8) == 0 {
			l = row(api.MaxStreams - 2 + chance.Intn(4))
		}
		for range chance.Intn(4) {
			if len(l) > 0 {
				at := chance.Intn(len(l))
				switch chance.Intn(3) {
				case 0:
					l[at] = anyStream(chance)
				case 1:
					l[at].Id = chance.Intn(len(l))
				case 2:
					l[at].Deadline = int64(1 + chance.Intn(500))
				}
			}
		}
		length := int64(1 + chance.Intn(500))
		if chance.Intn(3) == 0 {
			length = pick(chance, lengths, noLengths)
		}
		at, want := first(l, length)
		counts[want]++
		checks(t, l, length, at, want)
	}
	for _, errno := range []api.Errno{api.OK, api.ErrLong, api.ErrRange, api.ErrKind, api.ErrLen, api.ErrTwice, api.ErrOver} {
		if counts[errno] < 100 {
			t.Errorf("just %d answers of %d", counts[errno], errno)
		}
	}
}

func TestCost(t *testing.T) { // P25.1, example 1
	costs := [9]int64{80, 90, 100, 110, 120, 130, 140, 150, 160}
	for n, want := range costs {
		for _, s := range rights() {
			s.Bytes = n
			if got := stream.Cost(s); got != want || got != int64(wire.Most(true, n))+3 {
				t.Errorf("Cost(%v) = %d; want %d", s, got, want)
			}
		}
	}
	for _, f := range wrongs() {
		if got := stream.Cost(f.s); got != 0 {
			t.Errorf("Cost(%v) = %d", f.s, got)
		}
	}
}

func TestCostIsEnough(t *testing.T) { // P25.1: no frame of a stream takes more bits, with the three behind it
	chance := rand.New(rand.NewSource(133))
	for range 20000 {
		s := but(base, bytes(chance.Intn(9)))
		f := api.Frame{Id: api.Ident{Ext: true, N: chance.Uint32() >> 3}, Len: s.Bytes}
		for i := range s.Bytes {
			f.Data[i] = byte(0x3c * chance.Intn(2))
		}
		if took := int64(wire.Long(f) + 3); took > stream.Cost(s) {
			t.Fatalf("%s takes %d bits, which cost %d", frame.Text(f), took, stream.Cost(s))
		}
	}
}
