package class_test

import (
	"math"
	"math/rand"
	"testing"

	"bellbuoy/api"
	"bellbuoy/bus"
	"bellbuoy/class"
	"bellbuoy/ident"
)

// ordered fails unless the first of two is Before the other one, and not the other way round.
func ordered(t *testing.T, a, b api.Label) {
	t.Helper()
	if !class.Before(a, b) || class.Before(b, a) {
		t.Errorf("Before(%v, %v) = %v, the other way round %v", a, b, class.Before(a, b), class.Before(b, a))
	}
}

// level fails if one of two alike ones is Before the other one.
func level(t *testing.T, l api.Label) {
	t.Helper()
	if class.Before(l, l) {
		t.Errorf("%v is Before itself", l)
	}
}

func TestBefore(t *testing.T) { // P23.2
	for _, c := range [][2]api.Label{
		{label(api.EdfClass, 3, 9, 0), label(api.EdfClass, 4, 0, 0)}, // example 1
		{label(api.EdfClass, 3, 9, 1), label(api.DmClass, 3, 9, 1)},  // unlike in one part
		{label(api.EdfClass, 3, 9, 1), label(api.EdfClass, 4, 9, 1)},
		{label(api.EdfClass, 3, 9, 1), label(api.EdfClass, 3, 10, 1)},
		{label(api.EdfClass, 3, 9, 1), label(api.EdfClass, 3, 9, 2)},
		{label(api.EdfClass, 255, 2047, 31), label(api.DmClass, 0, 0, 0)}, // in several: the first of these decides
		{label(api.DmClass, 255, 2047, 31), label(api.FixedClass, 0, 0, 0)},
		{label(api.DmClass, 3, 2047, 31), label(api.DmClass, 4, 0, 0)},
		{label(api.DmClass, 3, 9, 31), label(api.DmClass, 3, 10, 0)},
		{label(api.FixedClass, 0, 0, 0), label(api.FixedClass, 255, 2047, 31)},
		{label(api.EdfClass, 4, 9, 1), label(api.DmClass, 3, 9, 1)},
		{label(api.EdfClass, 3, 9, 2), label(api.EdfClass, 4, 9, 1)},
		{label(api.SyncClass, 255, 2047, 31), label(api.EdfClass, 0, 0, 0)}, // and such as can't be
		{label(math.MinInt, 0, 0, 0), label(math.MaxInt, 0, 0, 0)},
		{label(1, math.MinInt, 0, 0), label(1, math.MaxInt, 0, 0)},
		{label(1, 0, math.MinInt, 0), label(1, 0, math.MaxInt, 0)},
		{label(1, 0, 0, math.MinInt), label(1, 0, 0, math.MaxInt)},
		{label(1, 0, 2048, 0), label(1, 1, 0, 0)},
		{label(1, 0, 0, 32), label(1, 0, 1, 0)},
		{label(1, 3, 9, 1), label(1<<32+1, 3, 9, 1)},
		{label(-1, 0, 0, 0), label(0, 0, 0, 0)},
		{label(1, 3, -1, 5), label(1, 3, 0, -5)},
	} {
		ordered(t, c[0], c[1])
		level(t, c[0])
		level(t, c[1])
	}
}

// sooner is what P23.2 asks, part by part.
func sooner(a, b api.Label) bool {
	if a.Class != b.Class {
		return a.Class < b.Class
	}
	if a.Slot != b.Slot {
		return a.Slot < b.Slot
	}
	if a.Stream != b.Stream {
		return a.Stream < b.Stream
	}
	return a.Node < b.Node
}

func TestBeforeOfAny(t *testing.T) { // P23.2: each against each, those that can't be among them
	chance := rand.New(rand.NewSource(84))
	list := wrongs()
	for range 200 {
		list = append(list, anyLabel(chance))
	}
	for _, a := range list {
		for _, b := range list {
			if class.Before(a, b) != sooner(a, b) {
				t.Fatalf("Before(%v, %v) = %v", a, b, !sooner(a, b))
			}
		}
	}
}

// decided fails unless the wire decides between two labels that can be as Before does.
func decided(t *testing.T, a, b api.Label) {
	t.Helper()
	one, first := class.Id(a)
	two, second := class.Id(b)
	if first != api.OK || second != api.OK {
		t.Fatalf("Id(%v), Id(%v): %d, %d", a, b, first, second)
	}
	for _, remote := range []bool{false, true} {
		if ident.Wins(one, remote, two, remote) != class.Before(a, b) || ident.Wins(two, remote, one, remote) != class.Before(b, a) {
			t.Fatalf("%v and %v: Before %v, %v", a, b, class.Before(a, b), class.Before(b, a))
		}
	}
}

func TestWireDecides(t *testing.T) { // P23.3
	chance := rand.New(rand.NewSource(85))
	edges := []api.Label{label(1, 0, 0, 0), label(1, 255, 2047, 31), label(2, 0, 0, 0), label(2, 255, 2047, 31), label(3, 0, 0, 0), label(3, 255, 2047, 31), label(2, 3, 9, 1)}
	for _, a := range rights() {
		for _, b := range edges {
			decided(t, a, b)
		}
		decided(t, a, anyLabel(chance))
	}
	for range 20000 {
		a, b := anyLabel(chance), anyLabel(chance)
		decided(t, a, b)
		decided(t, a, a)
	}
}

func TestWordsWin(t *testing.T) { // P23.3: each frame that is not Ext, whose N is below 256, wins over all labels
	for _, l := range rights() {
		id, errno := class.Id(l)
		if errno != api.OK {
			t.Fatalf("Id(%v): %d", l, errno)
		}
		for n := range uint32(256) {
			for at := range 4 {
				if word := (api.Ident{N: n}); !ident.Wins(word, at&1 == 1, id, at&2 == 2) {
					t.Fatalf("%v does not win over %v", word, l)
				}
			}
		}
	}
}

// TestOnWire lets nodes send all at once: frames are sent in the order of their labels, words ahead of all. (P23.3)
func TestOnWire(t *testing.T) {
	chance := rand.New(rand.NewSource(86))
	for range 60 {
		labels := []api.Label{anyLabel(chance), anyLabel(chance), label(1, 0, 0, 0), label(1, 0, 0, 1), label(3, 255, 2047, 31)}
		chance.Shuffle(len(labels), func(i, j int) { labels[i], labels[j] = labels[j], labels[i] })
		labels = unlike(labels)
		word := len(labels) // the node that has none
		b, errno := bus.New(word + 1)
		if errno != api.OK {
			t.Fatalf("bus.New(%d): %d", word+1, errno)
		}
		for k, l := range labels {
			id, _ := class.Id(l)
			b.Ask(k, api.Frame{Id: id})
		}
		b.Ask(word, api.Frame{Id: api.Ident{N: uint32(chance.Intn(256))}, Remote: chance.Intn(2) == 0})
		sent := order(b, word+1)
		if len(sent) != word+1 || sent[0] != word {
			t.Fatalf("%v: sent by %v", labels, sent)
		}
		for i := 2; i < len(sent); i++ {
			if !class.Before(labels[sent[i-1]], labels[sent[i]]) {
				t.Fatalf("%v: sent by %v", labels, sent)
			}
		}
	}
}

// unlike is those that are unlike all ahead of them.
func unlike(list []api.Label) []api.Label {
	var some []api.Label
	seen := map[api.Label]struct{}{}
	for _, l := range list {
		if _, ok := seen[l]; !ok {
			seen[l] = struct{}{}
			some = append(some, l)
		}
	}
	return some
}

// order is by which nodes frames are sent, one behind the other, till there are so many, or too much time went by.
func order(b *bus.Bus, frames int) []int {
	var sent []int
	for bits := 0; len(sent) < frames && bits < 200*frames; bits++ {
		_, notes := b.Step()
		for _, note := range notes {
			if note.Happen.Sent {
				sent = append(sent, note.Node)
			}
		}
	}
	return sent
}

func TestSlotThenClass(t *testing.T) { // P23.5
	for _, c := range classes {
		for _, stream := range streams {
			for _, node := range nodes {
				for slot := range api.LastSlot {
					ordered(t, label(c, slot, stream, node), label(c, slot+1, stream, node))
					ordered(t, label(c, slot, stream, node), label(c, api.LastSlot, stream, api.MaxNodes-1-node))
				}
			}
		}
	}
	for _, l := range rights() {
		for c := l.Class + 1; c <= api.FixedClass; c++ {
			ordered(t, l, label(c, 0, 0, 0))
			ordered(t, l, label(c, l.Slot, l.Stream, l.Node))
			ordered(t, l, label(c, api.LastSlot, api.MaxStream, api.MaxNodes-1))
		}
	}
}
