package queue_test

import (
	"math/rand"
	"slices"
	"testing"

	"bellbuoy/api"
	"bellbuoy/class"
	"bellbuoy/queue"
)

// model is a queue as chapter 24 says it: all that are there, in any order.
type model struct {
	room int
	list []queue.Entry
}

func (m *model) at(tag int) int {
	return slices.IndexFunc(m.list, func(e queue.Entry) bool { return e.Tag == tag })
}

func (m *model) put(e queue.Entry) api.Errno {
	if !class.Right(e.Label) {
		return api.ErrRange
	}
	if m.at(e.Tag) != -1 {
		return api.ErrTwice
	}
	if len(m.list) == m.room {
		return api.ErrFull
	}
	m.list = append(m.list, e)
	return api.OK
}

func (m *model) take(tag int) (queue.Entry, api.Errno) {
	i := m.at(tag)
	if i == -1 {
		return queue.Entry{}, api.ErrNone
	}
	e := m.list[i]
	m.list = slices.Delete(m.list, i, i+1)
	return e, api.OK
}

func (m *model) label(tag int, l api.Label) api.Errno {
	i := m.at(tag)
	if i == -1 {
		return api.ErrNone
	}
	if !class.Right(l) {
		return api.ErrRange
	}
	m.list[i].Label = l
	return api.OK
}

// sorted is each behind as many as are ahead of it.
func (m *model) sorted() []queue.Entry {
	all := make([]queue.Entry, len(m.list))
	for _, e := range m.list {
		ahead := 0
		for _, other := range m.list {
			alike := !class.Before(e.Label, other.Label) && !class.Before(other.Label, e.Label)
			if class.Before(other.Label, e.Label) || alike && other.Tag < e.Tag {
				ahead++
			}
		}
		all[ahead] = e
	}
	return all
}

// tags is those that are there, rising.
func (m *model) tags() []int { return rising(m.list) }

func rising(list []queue.Entry) []int {
	var all []int
	for _, e := range list {
		all = append(all, e.Tag)
	}
	slices.Sort(all)
	return all
}

// anyLabel is one of a few, so that many are alike; some can't be.
func anyLabel(chance *rand.Rand) api.Label {
	if chance.Intn(15) == 0 {
		return wrongs[chance.Intn(len(wrongs))]
	}
	l := api.Label{Class: api.Class(1 + chance.Intn(3)), Slot: chance.Intn(3), Stream: chance.Intn(2), Node: chance.Intn(2)}
	if chance.Intn(3) == 0 {
		l = api.Label{Class: l.Class, Slot: chance.Intn(256), Stream: chance.Intn(2048), Node: chance.Intn(32)}
	}
	return l
}

func TestAnyCalls(t *testing.T) { // P24.1 to P24.5
	chance := rand.New(rand.NewSource(91))
	counts := map[api.Errno]int{}
	for range 300 {
		room := 1 + chance.Intn(8)
		if chance.Intn(4) == 0 {
			room = api.MaxQueue - chance.Intn(3)
		}
		q, m := made(t, room), &model{room: room}
		for range 4 * room {
			counts[step(t, chance, q, m)]++
			has(t, q, room, m.sorted()...)
		}
		drains(t, q, m.sorted())
	}
	for _, errno := range []api.Errno{api.OK, api.ErrRange, api.ErrTwice, api.ErrFull, api.ErrNone} {
		if counts[errno] < 50 {
			t.Errorf("just %d answers of %d", counts[errno], errno)
		}
	}
}

// step is one call, of both: it fails unless they answer alike.
func step(t *testing.T, chance *rand.Rand, q *queue.Queue, m *model) api.Errno {
	t.Helper()
	tag, ahead := chance.Intn(2*m.room)-m.room/2, m.tags()
	switch chance.Intn(6) {
	case 0:
		e, want := m.take(tag)
		if got, errno := q.Take(tag); got != e || errno != want {
			t.Fatalf("Take(%d) = %v, %d; want %v, %d", tag, got, errno, e, want)
		}
		return want
	case 1:
		l := anyLabel(chance)
		want := m.label(tag, l)
		labels(t, q, tag, l, want)
		if !slices.Equal(rising(q.All()), ahead) { // P24.5
			t.Fatalf("Label(%d, %v): the tags are %v; they were %v", tag, l, rising(q.All()), ahead)
		}
		return want
	}
	e := queue.Entry{Label: anyLabel(chance), Tag: tag}
	want := m.put(e)
	puts(t, q, e, want)
	return want
}
