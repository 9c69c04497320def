package stream_test

import (
	"math"
	"math/rand"
	"slices"
	"testing"

	"bellbuoy/api"
	"bellbuoy/class"
	"bellbuoy/stream"
)

// ranks fails unless streams have these slots, and all else as it was.
func ranks(t *testing.T, l []api.Stream, slots ...int) {
	t.Helper()
	given := slices.Clone(l[:cap(l)])
	var want []api.Stream
	for i, n := range slots {
		want = append(want, but(l[i], slot(n)))
	}
	got := stream.Ranked(l)
	if !slices.Equal(got, want) {
		t.Fatalf("Ranked(%v) = %v; want %v", l, got, want)
	}
	for i := range got { // P3: the answer is the caller's
		got[i] = api.Stream{}
	}
	if !slices.Equal(l[:cap(l)], given) || !slices.Equal(stream.Ranked(l), want) {
		t.Fatalf("%v became %v", given, l[:cap(l)])
	}
}

// ranked is one of DmClass.
func ranked(n int, due int64) api.Stream { return but(base, id(n), of(api.DmClass), deadline(due)) }

func TestRanked(t *testing.T) { // P25.2
	edf, fixed := but(base, id(0), deadline(1)), but(base, id(1), of(api.FixedClass), deadline(1), slot(77))
	sync, next := but(base, of(api.SyncClass), deadline(1), slot(7)), but(base, of(4), deadline(1), slot(8))
	ranks(t, nil)
	ranks(t, []api.Stream{})
	ranks(t, []api.Stream{ranked(5, 500)}, 0)
	ranks(t, []api.Stream{but(ranked(5, 500), slot(255))}, 0) // whatever it was
	ranks(t, []api.Stream{ranked(5, 500), ranked(6, 501)}, 0, 1)
	ranks(t, []api.Stream{ranked(5, 501), ranked(6, 500)}, 1, 0)
	ranks(t, []api.Stream{ranked(5, 500), ranked(6, 500)}, 0, 1) // alike ones by their Ids
	ranks(t, []api.Stream{ranked(6, 500), ranked(5, 500)}, 1, 0)
	ranks(t, []api.Stream{ranked(6, 500), ranked(4, 500), ranked(5, 500)}, 2, 0, 1)
	ranks(t, []api.Stream{ranked(1, 3), ranked(2, 2), ranked(3, 1)}, 2, 1, 0) // the deadline ahead of the Id
	ranks(t, []api.Stream{ranked(5, 500), ranked(5, 500), ranked(9, 500)}, 0, 0, 2)
	ranks(t, []api.Stream{ranked(9, 500), ranked(5, 500), ranked(5, 500), ranked(5, 400)}, 3, 1, 1, 0)
	ranks(t, []api.Stream{edf, fixed, sync, next}, 3, 77, 7, 8)
	ranks(t, []api.Stream{edf, ranked(6, 500), fixed, ranked(5, 400), sync, next, ranked(7, 450)}, 3, 2, 77, 0, 7, 8, 1)
	ranks(t, []api.Stream{but(ranked(3, 5), slot(-1)), ranked(-1, 5), ranked(4, -5), ranked(4, math.MinInt64), ranked(math.MinInt, math.MaxInt64), ranked(math.MaxInt, math.MaxInt64)}, 3, 2, 1, 0, 4, 5)
	ranks(t, append(make([]api.Stream, 0, 9), ranked(6, 500), ranked(5, 500), ranked(1, 1))[:2], 1, 0) // not what stands behind its end
}

func TestRankedMany(t *testing.T) { // P25.2: no rank is above LastSlot
	for _, many := range []int{254, 255, 256, 257, 258, 1000} {
		var l []api.Stream
		var want []int
		for i := range many {
			l = append(l, ranked(i, int64(many-i)), base)
			want = append(want, min(many-1-i, api.LastSlot), 3)
		}
		ranks(t, l, want...)
	}
}

func TestRankedOfAny(t *testing.T) { // P25.2
	chance := rand.New(rand.NewSource(136))
	for range 2000 {
		l := make([]api.Stream, chance.Intn(70))
		for i := range l {
			l[i] = but(base, id(chance.Intn(12)-1), of(api.Class(chance.Intn(5))), deadline(int64(chance.Intn(9)-1)), slot(chance.Intn(300)-20))
		}
		var want []int
		for _, s := range l {
			rank := s.Slot
			if s.Class == api.DmClass {
				rank = 0
				for _, other := range l {
					if other.Class == api.DmClass && (other.Deadline < s.Deadline || other.Deadline == s.Deadline && other.Id < s.Id) {
						rank++
					}
				}
			}
			want = append(want, rank)
		}
		ranks(t, l, want...)
	}
}

func TestDeadlineMonotonic(t *testing.T) { // P25.4
	chance := rand.New(rand.NewSource(137))
	for range 500 {
		many := 2 + chance.Intn(62)
		if chance.Intn(10) == 0 {
			many = 250 + chance.Intn(60)
		}
		l := row(many)
		chance.Shuffle(many, func(i, j int) { l[i], l[j] = l[j], l[i] })
		for i := range l {
			l[i].Deadline = 1 + chance.Int63n(int64(many))
			if chance.Intn(3) > 0 {
				l[i].Class = api.DmClass
			}
		}
		l = stream.Ranked(l)
		for _, a := range l {
			for _, b := range l {
				if a.Class == api.DmClass && b.Class == api.DmClass && a.Deadline < b.Deadline {
					inOrder(t, a, b)
				}
			}
		}
	}
}

// inOrder fails unless the first of two ranked ones has no greater slot, and is sent ahead.
func inOrder(t *testing.T, a, b api.Stream) {
	t.Helper()
	if a.Slot > b.Slot {
		t.Fatalf("%v and %v", a, b)
	}
	if b.Slot == api.LastSlot { // perhaps it was held there
		return
	}
	one, first := stream.Label(a, 500, 0, 10)
	two, second := stream.Label(b, 100, 0, 10)
	if first != api.OK || second != api.OK || !class.Before(one, two) {
		t.Fatalf("%v and %v: %v, %v", a, b, one, two)
	}
}
