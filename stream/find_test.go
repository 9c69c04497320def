package stream_test

import (
	"math"
	"math/rand"
	"slices"
	"testing"

	"bellbuoy/api"
	"bellbuoy/class"
	"bellbuoy/stream"
)

func TestFind(t *testing.T) { // P25.2
	l := []api.Stream{but(base, id(5)), but(base, id(3)), but(base, id(5), node(2)), but(base, id(0)), but(base, id(-7)), but(base, id(math.MaxInt)), {Id: 1<<32 + 3}}
	for _, c := range []struct{ id, want int }{
		{5, 0}, {3, 1}, {0, 3}, {-7, 4}, {math.MaxInt, 5}, {1<<32 + 3, 6}, // there, the first one of two, and such as can't be
		{4, -1}, {-5, -1}, {2047, -1}, {2048, -1}, {1 << 32, -1}, {1<<32 + 5, -1}, {math.MinInt, -1}, {-1, -1},
	} {
		if got := stream.Find(l, c.id); got != c.want {
			t.Errorf("Find(%v, %d) = %d; want %d", l, c.id, got, c.want)
		}
		for _, none := range [][]api.Stream{nil, {}, l[:0]} {
			if got := stream.Find(none, c.id); got != api.None {
				t.Errorf("Find of none, %d: %d", c.id, got)
			}
		}
	}
}

// owns fails unless these are the streams of a node.
func owns(t *testing.T, l []api.Stream, node int, want ...api.Stream) {
	t.Helper()
	given := slices.Clone(l)
	got := stream.Of(l, node)
	if !slices.Equal(got, want) {
		t.Fatalf("Of(%v, %d) = %v; want %v", l, node, got, want)
	}
	for i := range got { // P3: the answer is the caller's
		got[i] = api.Stream{}
	}
	if !slices.Equal(l, given) || !slices.Equal(stream.Of(l, node), want) {
		t.Fatalf("%v became %v", given, l)
	}
}

func TestOf(t *testing.T) { // P25.2
	one, two, three := but(base, id(5), node(0)), but(base, id(3), node(4)), but(base, id(9), node(0))
	l := []api.Stream{one, two, three}
	owns(t, l, 0, one, three)
	owns(t, l, 4, two)
	for _, node := range []int{1, 3, 5, 31, 32, -1, 1 << 32, 1<<32 + 4, math.MaxInt, math.MinInt} {
		owns(t, l, node)
	}
	owns(t, []api.Stream{three, two, one, one}, 0, three, one, one) // as they stand, and as often
	owns(t, nil, 0)
	owns(t, []api.Stream{}, 0)
	owns(t, []api.Stream{{}, {Node: -1, Id: -1}, {Node: math.MaxInt}}, -1, api.Stream{Node: -1, Id: -1}) // those that can't be, too
	owns(t, []api.Stream{{}, {Node: -1, Id: -1}, {Node: math.MaxInt}}, 0, api.Stream{})
	owns(t, []api.Stream{{}, {Node: -1, Id: -1}, {Node: math.MaxInt}}, math.MaxInt, api.Stream{Node: math.MaxInt})
	owns(t, append(make([]api.Stream, 0, 9), l...)[:2], 0, one) // not what stands behind its end
	long := slices.Repeat(l, 400)
	owns(t, long, 4, slices.Repeat([]api.Stream{two}, 400)...)
}

func TestAllThereAre(t *testing.T) { // P25.5
	chance := rand.New(rand.NewSource(134))
	for range 2000 {
		l := make([]api.Stream, chance.Intn(80))
		for i := range l {
			l[i] = but(base, id(chance.Intn(90)), node(chance.Intn(6)), bytes(chance.Intn(9)))
		}
		told := 0
		for n := -1; n <= 6; n++ {
			var want []api.Stream
			for _, s := range l {
				if s.Node == n {
					want = append(want, s)
				}
			}
			owns(t, l, n, want...)
			told += len(want)
		}
		if told != len(l) {
			t.Fatalf("%d of %v", told, l)
		}
		for n := -1; n <= 90; n++ {
			want := slices.IndexFunc(l, func(s api.Stream) bool { return s.Id == n })
			if got := stream.Find(l, n); got != want {
				t.Fatalf("Find(%v, %d) = %d; want %d", l, n, got, want)
			}
		}
	}
}

// told fails unless this is the label of a stream's frame.
func told(t *testing.T, s api.Stream, deadline, epoch, length int64, slot int) {
	t.Helper()
	want := api.Label{Class: s.Class, Slot: slot, Stream: s.Id, Node: s.Node}
	if got, errno := stream.Label(s, deadline, epoch, length); got != want || errno != api.OK {
		t.Fatalf("Label(%v, %d, %d, %d) = %v, %d; want %v", s, deadline, epoch, length, got, errno, want)
	}
	if !class.Right(want) {
		t.Fatalf("%v can't be", want)
	}
}

// refused fails unless there is no label, with that error.
func refused(t *testing.T, s api.Stream, deadline, epoch, length int64, want api.Errno) {
	t.Helper()
	if got, errno := stream.Label(s, deadline, epoch, length); got != (api.Label{}) || errno != want {
		t.Fatalf("Label(%v, %d, %d, %d) = %v, %d; want %d", s, deadline, epoch, length, got, errno, want)
	}
}

func TestLabel(t *testing.T) { // P25.2
	for _, c := range []struct {
		deadline, epoch, length int64
		slot                    int
	}{
		{125, 100, 10, 2}, {120, 100, 10, 2}, {129, 100, 10, 2}, {130, 100, 10, 3}, {119, 100, 10, 1}, // the deadline's
		{100, 100, 10, 0}, {109, 100, 10, 0}, {99, 100, 10, 0}, {-500, 100, 10, 0}, {-1 << 60, 1 << 60, 1, 0}, // in the past
		{2649, 100, 10, 254}, {2650, 100, 10, 255}, {2659, 100, 10, 255}, {2660, 100, 10, 255}, {1 << 50, 100, 10, 255}, {1 << 60, -1 << 60, 1, 255}, // far off
		{1 << 60, 0, 1 << 40, 255}, {1 << 45, 0, 1 << 40, 32}, {0, 0, 1, 0}, {7, 0, 1, 7}, {-3, -10, 1, 7},
	} {
		for _, s := range rights() {
			if s.Class == api.EdfClass {
				told(t, s, c.deadline, c.epoch, c.length, c.slot)
			} else {
				told(t, s, c.deadline, c.epoch, c.length, s.Slot)
			}
		}
		for _, f := range wrongs() {
			refused(t, f.s, c.deadline, c.epoch, c.length, f.want)
		}
	}
}

func TestLabelOfNoTime(t *testing.T) { // P25.2: also of those that have no deadlines
	for _, c := range [][3]int64{
		{125, 100, 0}, {125, 100, -1}, {125, 100, -10}, {125, 100, 1<<40 + 1}, {125, 100, math.MaxInt64}, {125, 100, math.MinInt64},
		{1<<60 + 1, 100, 10}, {-1<<60 - 1, 100, 10}, {math.MaxInt64, 100, 10}, {math.MinInt64, 100, 10},
		{125, 1<<60 + 1, 10}, {125, -1<<60 - 1, 10}, {125, math.MaxInt64, 10}, {125, math.MinInt64, 10}, {math.MinInt64, math.MaxInt64, 0},
	} {
		for _, s := range rights() {
			refused(t, s, c[0], c[1], c[2], api.ErrRange)
		}
		for _, f := range wrongs() { // what is wrong with the stream is told first
			refused(t, f.s, c[0], c[1], c[2], f.want)
		}
	}
}

func TestLabelOfAny(t *testing.T) { // P25.2: the slot that the time divided says, held within what there is
	chance := rand.New(rand.NewSource(135))
	for range 50000 {
		s := anyStream(chance)
		length, epoch := 1+chance.Int63n(2000), chance.Int63n(1<<40)-1<<39
		due := epoch + chance.Int63n(300*length) - 20*length
		if want := right(s); want != api.OK {
			refused(t, s, due, epoch, length, want)
			continue
		}
		slot := s.Slot
		if s.Class == api.EdfClass {
			for slot = 0; slot < 255 && due >= epoch+int64(slot+1)*length; slot++ {
			}
		}
		told(t, s, due, epoch, length, slot)
	}
}
