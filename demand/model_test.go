package demand_test

import (
	"math/rand"
	"slices"
	"testing"

	"bellbuoy/api"
	"bellbuoy/demand"
	"bellbuoy/stream"
)

// dues is how many jobs of a stream come, one at 0 and each a period behind the one ahead, and are due, a slot less one sooner than they are, within so many bits.
func dues(s api.Stream, span, length int64) int64 {
	many := int64(0)
	for came := int64(0); came+s.Deadline-(length-1) <= span; came += s.Period {
		many++
	}
	return many
}

// sum is the demand, reckoned job by job.
func sum(l []api.Stream, span, length int64) int64 {
	total := int64(0)
	for _, s := range l {
		if s.Class == api.EdfClass {
			total += dues(s, span, length) * int64(80+10*s.Bytes)
		}
	}
	return total
}

// longest is what blocks.
func longest(l []api.Stream) int64 {
	most := int64(0)
	for _, s := range l {
		most = max(most, int64(80+10*s.Bytes))
	}
	return most
}

// least is the first span at which streams ask for too much, looked for bit by bit; 0 if there is none.
func least(l []api.Stream, length, horizon int64) int64 {
	starts := make([]int64, len(l)) // until when the next job of each is due
	for i, s := range l {
		starts[i] = s.Deadline - (length - 1)
	}
	total, blocks := int64(0), longest(l)
	for span := int64(1); span <= horizon; span++ {
		for i, s := range l {
			for s.Class == api.EdfClass && starts[i] <= span {
				total += int64(80 + 10*s.Bytes)
				starts[i] += s.Period
			}
		}
		if total > 0 && total+blocks > span {
			return span
		}
	}
	return 0
}

// anyStreams is some that can be together, with slots of that length; about as many bits are asked for as there are.
func anyStreams(chance *rand.Rand, length int64) []api.Stream {
	if chance.Intn(4) == 0 {
		return tight(chance, length)
	}
	many := chance.Intn(12)
	var l []api.Stream
	for i := range many {
		s := due(i, 0, 0, chance.Intn(9))
		share := int64(many) * int64(80+10*s.Bytes)
		s.Period = share*9/10 + chance.Int63n(share*3/2) + chance.Int63n(300) + length
		s.Deadline = s.Period
		if chance.Intn(2) == 0 {
			s.Deadline = length + chance.Int63n(s.Period-length+1)
		}
		if chance.Intn(5) == 0 {
			s.Class = []api.Class{api.DmClass, api.FixedClass}[chance.Intn(2)]
		}
		l = append(l, s)
	}
	return l
}

// tight is many that ask for a bit more, or a bit less, than there is: that is told late.
func tight(chance *rand.Rand, length int64) []api.Stream {
	many := 15 + chance.Intn(30)
	var l []api.Stream
	for i := range many {
		s := due(i, 0, 0, chance.Intn(9))
		share := int64(many) * int64(80+10*s.Bytes)
		s.Period = share*6/10 + chance.Int63n(share*7/10) + length
		s.Deadline = s.Period
		l = append(l, s)
	}
	return l
}

// anyLength is mostly a short one.
func anyLength(chance *rand.Rand) int64 {
	return []int64{1, 1, 1 + chance.Int63n(20), 1 + chance.Int63n(400)}[chance.Intn(4)]
}

func TestOfAny(t *testing.T) { // P26.1
	chance := rand.New(rand.NewSource(141))
	for range 1000 {
		length := anyLength(chance)
		l := anyStreams(chance, length)
		for range 20 {
			span := 1 + chance.Int63n(8000)
			if len(l) > 0 && chance.Intn(2) == 0 { // just where a job is due, and beside it
				s := l[chance.Intn(len(l))]
				span = max(1, s.Deadline-length+1+chance.Int63n(4)*s.Period+chance.Int63n(3)-1)
			}
			asks(t, l, span, length, sum(l, span, length))
		}
		asks(t, l, api.MaxHorizon, length, sum(l, api.MaxHorizon, length))
	}
}

func TestPassesOfAny(t *testing.T) { // P26.2
	chance := rand.New(rand.NewSource(142))
	passed, soon, late := 0, 0, 0
	for range 2500 {
		length, horizon := anyLength(chance), 1+chance.Int63n(20000)
		l := anyStreams(chance, length)
		at := least(l, length, horizon)
		passes(t, l, length, horizon, at)
		switch {
		case at == 0:
			passed++
		case at < 2000:
			soon++
		default:
			late++
		}
	}
	if passed < 300 || soon < 300 || late < 50 {
		t.Errorf("%d passed, %d soon not, %d late not", passed, soon, late)
	}
}

func TestPassesAsDemandSays(t *testing.T) { // P26.2: told by Of, at each span
	chance := rand.New(rand.NewSource(143))
	for range 20 {
		length := anyLength(chance)
		l := anyStreams(chance, length)
		at := int64(0)
		for span := int64(1); span <= 3000 && at == 0; span++ {
			if asked := demand.Of(l, span, length); asked > 0 && asked+demand.Blocking(l) > span {
				at = span
			}
		}
		passes(t, l, length, 3000, at)
	}
}

func TestPassesManyShort(t *testing.T) { // P26.2: however dense the jobs are
	var l []api.Stream
	for i := range api.MaxStreams {
		l = append(l, due(i, 1, 1, 8))
	}
	passes(t, l, 1, api.MaxHorizon, 1)
	for i := range l {
		l[i].Period, l[i].Deadline = api.MaxHorizon, api.MaxHorizon
	}
	passes(t, l, 1, api.MaxHorizon, 0)
	l[63] = due(63, 159, 159, 8)
	passes(t, l, 1, api.MaxHorizon, 159)
	passes(t, l, 1, 158, 0)
}

func TestInOrder(t *testing.T) { // P26.3
	chance := rand.New(rand.NewSource(144))
	for range 2000 {
		length := 1 + chance.Int63n(400)
		l := anyStreams(chance, length)
		span := 1 + chance.Int63n(6000)
		here := demand.Of(l, span, length)
		if more := demand.Of(l, span+chance.Int63n(500), length); more < here {
			t.Fatalf("%v, %d, %d: %d, and %d with more bits", l, span, length, here, more)
		}
		if shorter := demand.Of(l, span, 1+chance.Int63n(length)); shorter > here {
			t.Fatalf("%v, %d, %d: %d, and %d with shorter slots", l, span, length, here, shorter)
		}
		for i := range l {
			less := slices.Delete(slices.Clone(l), i, i+1)
			if without := demand.Of(less, span, length); without > here {
				t.Fatalf("%v, %d, %d: %d, and %d without the one at %d", l, span, length, here, without, i)
			}
		}
	}
}

func TestPassesWithLess(t *testing.T) { // P26.4
	chance := rand.New(rand.NewSource(145))
	passed := 0
	for range 800 {
		length, horizon := anyLength(chance), 1+chance.Int63n(20000)
		l := anyStreams(chance, length)
		if _, ok := demand.Passes(l, length, horizon); !ok {
			continue
		}
		passed++
		passes(t, l, length, 1+chance.Int63n(horizon), 0)
		passes(t, l, length, 1, 0)
		passes(t, l, length, max(1, horizon-1), 0)
		for i := range l {
			passes(t, slices.Delete(slices.Clone(l), i, i+1), length, horizon, 0)
		}
	}
	if passed < 200 {
		t.Errorf("just %d passed", passed)
	}
}

func TestOthersBlock(t *testing.T) { // P26.5: nothing but the longest of them counts
	chance := rand.New(rand.NewSource(146))
	for range 2000 {
		length, horizon := anyLength(chance), 1+chance.Int63n(20000)
		l := anyStreams(chance, length)
		other := slices.Clone(l)
		for i, s := range other {
			if s.Class != api.EdfClass {
				other[i] = api.Stream{Id: 1000 + i, Node: 31, Class: api.DmClass + api.FixedClass - s.Class, Slot: 255, Period: 1 + chance.Int63n(1000), Deadline: 1, Bytes: s.Bytes}
			}
		}
		same(t, l, other, length, horizon)
		block := of(api.FixedClass, due(1000, 1, 1, (int(longest(l))-80)/10))
		if len(l) > 0 { // all of them in one
			same(t, l, append(slices.DeleteFunc(slices.Clone(l), func(s api.Stream) bool { return s.Class != api.EdfClass }), block), length, horizon)
		}
	}
}

// same fails unless two lists ask for the same.
func same(t *testing.T, l, other []api.Stream, length, horizon int64) {
	t.Helper()
	if _, errno := stream.Check(other, length); errno != api.OK {
		t.Fatalf("Check(%v, %d): %d", other, length, errno)
	}
	at, ok := demand.Passes(l, length, horizon)
	tells(t, other, length, horizon, at, ok)
	asks(t, other, min(horizon, 5000), length, demand.Of(l, min(horizon, 5000), length))
	if demand.Load(l) != demand.Load(other) || demand.Blocking(l) != demand.Blocking(other) {
		t.Fatalf("%v and %v: %d, %d; %d, %d", l, other, demand.Load(l), demand.Load(other), demand.Blocking(l), demand.Blocking(other))
	}
}
