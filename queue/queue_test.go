package queue_test

import (
	"math"
	"slices"
	"testing"

	"bellbuoy/api"
	"bellbuoy/class"
	"bellbuoy/queue"
)

// entry is one of a tag, and of a label of these parts.
func entry(tag int, c api.Class, slot, stream, node int) queue.Entry {
	return queue.Entry{Label: api.Label{Class: c, Slot: slot, Stream: stream, Node: node}, Tag: tag}
}

// due is one of a tag, whose label is of EdfClass, and that slot.
func due(tag, slot int) queue.Entry { return entry(tag, api.EdfClass, slot, 9, 1) }

// wrongs are labels that can't be: each part out of its bounds.
var wrongs = []api.Label{
	{}, {Slot: 3, Stream: 9, Node: 1}, {Class: 4}, {Class: -1}, {Class: math.MaxInt}, {Class: 1<<32 + 1},
	{Class: api.EdfClass, Slot: -1}, {Class: api.EdfClass, Slot: api.LastSlot + 1}, {Class: api.FixedClass, Slot: math.MinInt},
	{Class: api.DmClass, Stream: -1}, {Class: api.DmClass, Stream: api.MaxStream + 1}, {Class: api.EdfClass, Stream: 1<<32 + 9},
	{Class: api.FixedClass, Node: -1}, {Class: api.FixedClass, Node: api.MaxNodes}, {Class: api.DmClass, Node: math.MaxInt},
	{Class: 4, Slot: 256, Stream: 2048, Node: 32},
}

// noRooms are rooms that no queue has.
var noRooms = []int{0, -1, -2, -64, api.MaxQueue + 1, api.MaxQueue + 2, 128, 1 << 32, 1<<32 + 1, math.MaxInt, math.MinInt, math.MinInt + 1}

// tags are any numbers.
var tags = []int{0, 1, 2, 63, 64, -1, api.TurnTag, api.FollowTag, -64, 1 << 32, 1<<32 + 1, math.MaxInt, math.MinInt}

// made is a queue with so much room, in which these are laid.
func made(t *testing.T, room int, list ...queue.Entry) *queue.Queue {
	t.Helper()
	q, errno := queue.New(room)
	if q == nil || errno != api.OK {
		t.Fatalf("New(%d) = %v, %d", room, q, errno)
	}
	for _, e := range list {
		puts(t, q, e, api.OK)
	}
	return q
}

// puts lays an entry in; it fails unless that is the answer.
func puts(t *testing.T, q *queue.Queue, e queue.Entry, want api.Errno) {
	t.Helper()
	if errno := q.Put(e); errno != want {
		t.Fatalf("Put(%v) = %d; want %d", e, errno, want)
	}
}

// takes takes one out by its tag; it fails unless it is that one.
func takes(t *testing.T, q *queue.Queue, want queue.Entry) {
	t.Helper()
	if e, errno := q.Take(want.Tag); e != want || errno != api.OK {
		t.Fatalf("Take(%d) = %v, %d; want %v", want.Tag, e, errno, want)
	}
}

// labels gives one another label; it fails unless that is the answer.
func labels(t *testing.T, q *queue.Queue, tag int, l api.Label, want api.Errno) {
	t.Helper()
	if errno := q.Label(tag, l); errno != want {
		t.Fatalf("Label(%d, %v) = %d; want %d", tag, l, errno, want)
	}
}

// lacks fails if a queue has one of that tag; all stays as it is.
func lacks(t *testing.T, q *queue.Queue, tag int) {
	t.Helper()
	if e, ok := q.Get(tag); e != (queue.Entry{}) || ok {
		t.Fatalf("Get(%d) = %v, %v of none", tag, e, ok)
	}
	if e, errno := q.Take(tag); e != (queue.Entry{}) || errno != api.ErrNone {
		t.Fatalf("Take(%d) = %v, %d of none", tag, e, errno)
	}
	labels(t, q, tag, due(0, 3).Label, api.ErrNone)
	labels(t, q, tag, api.Label{}, api.ErrNone) // that there is none is the first error
}

// has fails unless a queue has just these, in this order.
func has(t *testing.T, q *queue.Queue, room int, want ...queue.Entry) {
	t.Helper()
	if all := q.All(); !slices.Equal(all, want) {
		t.Fatalf("All() = %v; want %v", all, want)
	}
	if q.Len() != len(want) || q.Room() != room {
		t.Fatalf("%d, with room for %d; want %d, %d", q.Len(), q.Room(), len(want), room)
	}
	head, ok := q.Head()
	if len(want) == 0 && (head != (queue.Entry{}) || ok) {
		t.Fatalf("Head() = %v, %v of none", head, ok)
	}
	if len(want) > 0 && (head != want[0] || !ok) {
		t.Fatalf("Head() = %v, %v; want %v", head, ok, want[0])
	}
	for _, e := range want {
		if got, ok := q.Get(e.Tag); got != e || !ok {
			t.Fatalf("Get(%d) = %v, %v; want %v", e.Tag, got, ok, e)
		}
	}
	for _, tag := range tags {
		if !slices.ContainsFunc(want, func(e queue.Entry) bool { return e.Tag == tag }) {
			lacks(t, q, tag)
		}
	}
}

func TestNew(t *testing.T) { // P24.1
	for _, room := range noRooms {
		if q, errno := queue.New(room); q != nil || errno != api.ErrRange {
			t.Errorf("New(%d) = %v, %d", room, q, errno)
		}
	}
	for room := 1; room <= api.MaxQueue; room++ {
		has(t, made(t, room), room)
	}
}

func TestNil(t *testing.T) { // P24.2
	var q *queue.Queue
	for _, tag := range tags {
		puts(t, q, due(tag, 3), api.ErrNone)
		for _, l := range wrongs {
			puts(t, q, queue.Entry{Label: l, Tag: tag}, api.ErrNone)
			labels(t, q, tag, l, api.ErrNone)
		}
	}
	has(t, q, 0)
	if all := q.All(); len(all) != 0 {
		t.Errorf("All() = %v", all)
	}
}

func TestPut(t *testing.T) { // P24.1, P24.4: up to the last room, and one more
	for room := 1; room <= api.MaxQueue; room++ {
		q := made(t, room)
		var list []queue.Entry
		for i := range room {
			has(t, q, room, list...)
			e := due(i, 3*i)
			puts(t, q, e, api.OK)
			list = append(list, e)
		}
		for range 3 {
			has(t, q, room, list...)
			puts(t, q, due(100, 0), api.ErrFull)
			puts(t, q, due(-100, 255), api.ErrFull)
		}
		has(t, q, room, list...)
	}
}

func TestPutErrors(t *testing.T) { // P24.1: a label's ahead of what is there twice, and that ahead of what is full
	one, two := due(0, 5), due(-7, 6)
	for room := 1; room <= 3; room++ {
		list := []queue.Entry{one, two}[:min(room, 2)]
		q := made(t, room, list...)
		for _, l := range wrongs {
			if class.Right(l) {
				t.Fatalf("%v can be", l)
			}
			for _, tag := range []int{1, 0, -7} {
				puts(t, q, queue.Entry{Label: l, Tag: tag}, api.ErrRange)
			}
		}
		for _, e := range list {
			puts(t, q, e, api.ErrTwice)
			puts(t, q, due(e.Tag, 0), api.ErrTwice)
			puts(t, q, entry(e.Tag, api.FixedClass, 255, 2047, 31), api.ErrTwice)
		}
		has(t, q, room, list...)
	}
}

func TestTags(t *testing.T) { // P24.1, P24.2: any number is one
	q := made(t, len(tags))
	var list []queue.Entry
	for i, tag := range tags {
		lacks(t, q, tag)
		e := due(tag, i)
		puts(t, q, e, api.OK)
		list = append(list, e)
		has(t, q, len(tags), list...)
	}
	for i, e := range list {
		takes(t, q, e)
		lacks(t, q, e.Tag)
		has(t, q, len(tags), list[i+1:]...)
	}
}

func TestTake(t *testing.T) { // P24.1
	one, two, three := due(1, 3), due(2, 4), due(3, 5)
	for _, c := range []struct{ first, second, third queue.Entry }{
		{one, two, three}, {one, three, two}, {two, one, three}, {two, three, one}, {three, one, two}, {three, two, one},
	} {
		q := made(t, 3, three, one, two)
		has(t, q, 3, one, two, three)
		left := []queue.Entry{one, two, three}
		for _, e := range []queue.Entry{c.first, c.second, c.third} {
			takes(t, q, e)
			left = slices.DeleteFunc(left, func(x queue.Entry) bool { return x == e })
			for range 2 { // it is there no more
				lacks(t, q, e.Tag)
				has(t, q, 3, left...)
			}
		}
		puts(t, q, c.second, api.OK) // and can be put again
		has(t, q, 3, c.second)
	}
}

func TestHead(t *testing.T) { // P24.2: to be asked it again and again changes nothing
	q := made(t, 2)
	for range 2 {
		if e, ok := q.Head(); e != (queue.Entry{}) || ok {
			t.Errorf("Head() = %v, %v of none", e, ok)
		}
	}
	puts(t, q, due(1, 4), api.OK)
	puts(t, q, due(2, 3), api.OK)
	for range 3 {
		if e, ok := q.Head(); e != due(2, 3) || !ok {
			t.Errorf("Head() = %v, %v", e, ok)
		}
	}
	has(t, q, 2, due(2, 3), due(1, 4))
}

func TestInOrder(t *testing.T) { // P24.2, P24.3: whatever the order in which they are put
	for _, list := range [][]queue.Entry{
		{due(5, 3), due(1, 4)}, // the label is ahead of the tag
		{due(1, 3), due(5, 4)},
		{due(1, 3), due(2, 3)}, // example 1
		{due(-2, 3), due(-1, 3), due(0, 3), due(1, 3)},
		{due(math.MinInt, 3), due(-1, 3), due(math.MaxInt, 3)},
		{entry(9, 1, 3, 9, 1), entry(8, 2, 3, 9, 1), entry(7, 3, 3, 9, 1)},   // by the class
		{entry(9, 2, 3, 9, 1), entry(8, 2, 4, 9, 1), entry(7, 2, 255, 9, 1)}, // by the slot
		{entry(9, 2, 3, 0, 1), entry(8, 2, 3, 9, 1), entry(7, 2, 3, 2047, 1)},
		{entry(9, 2, 3, 9, 0), entry(8, 2, 3, 9, 1), entry(7, 2, 3, 9, 31)},
		{entry(4, 1, 255, 2047, 31), entry(3, 2, 0, 2047, 31), entry(2, 2, 1, 0, 31), entry(1, 2, 1, 1, 0)},
		{entry(4, 1, 3, 9, 1), entry(5, 1, 3, 9, 1), entry(-6, 1, 3, 9, 2), entry(6, 1, 3, 9, 2)},
	} {
		for _, some := range orders(list) {
			q := made(t, len(list), some...)
			has(t, q, len(list), list...)
			drains(t, q, list)
		}
	}
}

// orders is all orders that a list may be in.
func orders(list []queue.Entry) [][]queue.Entry {
	if len(list) == 0 {
		return [][]queue.Entry{nil}
	}
	var all [][]queue.Entry
	for _, rest := range orders(list[1:]) {
		for i := range len(list) {
			all = append(all, slices.Insert(slices.Clone(rest), i, list[0]))
		}
	}
	return all
}

// drains takes the head, again and again, till a queue is empty; it fails unless these are what it took.
func drains(t *testing.T, q *queue.Queue, want []queue.Entry) {
	t.Helper()
	room := q.Room()
	for i, e := range want {
		has(t, q, room, want[i:]...)
		head, _ := q.Head()
		if head != e {
			t.Fatalf("Head() = %v; want %v", head, e)
		}
		takes(t, q, head)
	}
	has(t, q, room)
}

func TestLabel(t *testing.T) { // P24.2, P24.5
	one, two, three := due(1, 10), due(2, 20), due(3, 30)
	for _, c := range []struct {
		e    queue.Entry // as it is labelled
		want []queue.Entry
	}{
		{due(1, 10), []queue.Entry{one, two, three}}, // the one that it has
		{due(1, 20), []queue.Entry{due(1, 20), two, three}},
		{due(1, 21), []queue.Entry{two, due(1, 21), three}},
		{due(1, 30), []queue.Entry{two, due(1, 30), three}},
		{due(1, 31), []queue.Entry{two, three, due(1, 31)}},
		{due(2, 9), []queue.Entry{due(2, 9), one, three}},
		{due(2, 10), []queue.Entry{one, due(2, 10), three}},
		{due(3, 10), []queue.Entry{one, due(3, 10), two}},
		{due(3, 0), []queue.Entry{due(3, 0), one, two}},
		{due(3, 20), []queue.Entry{one, two, due(3, 20)}},
		{due(2, 30), []queue.Entry{one, due(2, 30), three}},
		{due(2, 255), []queue.Entry{one, three, due(2, 255)}},
		{entry(1, api.DmClass, 0, 0, 0), []queue.Entry{two, three, entry(1, api.DmClass, 0, 0, 0)}},
		{entry(3, api.EdfClass, 0, 2047, 31), []queue.Entry{entry(3, api.EdfClass, 0, 2047, 31), one, two}},
		{entry(2, api.EdfClass, 10, 8, 1), []queue.Entry{entry(2, api.EdfClass, 10, 8, 1), one, three}},
		{entry(2, api.EdfClass, 10, 9, 0), []queue.Entry{entry(2, api.EdfClass, 10, 9, 0), one, three}},
	} {
		for room := 3; room <= 4; room++ { // a full one, too
			q := made(t, room, two, three, one)
			labels(t, q, c.e.Tag, c.e.Label, api.OK)
			has(t, q, room, c.want...)
			labels(t, q, c.e.Tag, due(0, 10*c.e.Tag).Label, api.OK) // as it was
			has(t, q, room, one, two, three)
		}
	}
}

func TestLabelErrors(t *testing.T) { // P24.2: that none has the tag is ahead of a label that can't be
	one, two := due(1, 10), due(2, 20)
	q := made(t, 3, two, one)
	for _, l := range append(wrongs, due(0, 3).Label) {
		for _, tag := range []int{0, -1, 3, 10, 20, math.MinInt, math.MaxInt} {
			labels(t, q, tag, l, api.ErrNone)
		}
	}
	for _, l := range wrongs {
		labels(t, q, 1, l, api.ErrRange)
		labels(t, q, 2, l, api.ErrRange)
	}
	has(t, q, 3, one, two)
	takes(t, q, one)
	labels(t, q, 1, due(0, 3).Label, api.ErrNone)
	labels(t, q, 1, api.Label{}, api.ErrNone)
	has(t, q, 3, two)
}

func TestFull(t *testing.T) { // P24.4: what is full is as it was, and has room again once one is taken
	for _, room := range []int{1, 2, 3, 17, api.MaxQueue - 1, api.MaxQueue} {
		var list []queue.Entry
		for i := range room {
			list = append(list, entry(-i, api.DmClass, i, 9, 1))
		}
		q := made(t, room, list...)
		for _, e := range []queue.Entry{due(1, 0), entry(1, api.FixedClass, 255, 2047, 31), {Label: list[0].Label, Tag: 1}, {Label: list[0].Label, Tag: -100}} {
			puts(t, q, e, api.ErrFull)
			has(t, q, room, list...)
		}
		for i, e := range list {
			takes(t, q, e)
			puts(t, q, due(1, 0), api.OK)
			puts(t, q, due(2, 0), api.ErrFull)
			puts(t, q, e, api.ErrFull)
			without := slices.Delete(slices.Clone(list), i, i+1)
			has(t, q, room, slices.Insert(without, 0, due(1, 0))...)
			takes(t, q, due(1, 0))
			puts(t, q, e, api.OK)
			has(t, q, room, list...)
		}
	}
}

func TestAllIsTheCallers(t *testing.T) { // P3: what was told does not change with the queue, nor the queue with it
	one, two, three := due(1, 10), due(2, 20), due(3, 30)
	q := made(t, 8, two, one)
	told := [][]queue.Entry{q.All(), q.All()}
	is := func() {
		t.Helper()
		for _, all := range told {
			if !slices.Equal(all, []queue.Entry{one, two}) {
				t.Fatalf("what was told is %v", all)
			}
		}
	}
	puts(t, q, due(0, 0), api.OK)
	is()
	labels(t, q, 1, due(0, 200).Label, api.OK)
	is()
	takes(t, q, due(0, 0))
	is()
	takes(t, q, two)
	takes(t, q, due(1, 200))
	is()
	q = made(t, 8, two, one)
	all := q.All()
	all[0], all[1] = three, three
	has(t, q, 8, one, two)
	all = q.All()
	_ = append(all, due(9, 9), due(8, 8))
	_ = append(all[:0], three)
	puts(t, q, three, api.OK)
	has(t, q, 8, one, two, three)
	is()
	empty := made(t, 2)
	none := empty.All()
	_ = append(none, one)
	puts(t, empty, two, api.OK)
	has(t, empty, 2, two)
}

func TestApart(t *testing.T) { // P5: queues have nothing in common
	a, b := made(t, 2, due(1, 3), due(2, 4)), made(t, 1)
	has(t, b, 1)
	puts(t, b, due(1, 9), api.OK)
	takes(t, a, due(1, 3))
	labels(t, a, 2, due(0, 7).Label, api.OK)
	has(t, b, 1, due(1, 9))
	has(t, a, 2, due(2, 7))
}
