package class_test

import (
	"math"
	"math/rand"
	"slices"
	"testing"

	"bellbuoy/api"
	"bellbuoy/class"
	"bellbuoy/ident"
)

// label is one of these parts.
func label(c api.Class, slot, stream, node int) api.Label {
	return api.Label{Class: c, Slot: slot, Stream: stream, Node: node}
}

func long(n uint32) api.Ident { return api.Ident{Ext: true, N: n} }

// classes, slots, streams and nodes are the bounds of those that can be, and others within.
var (
	classes = []api.Class{api.EdfClass, api.DmClass, api.FixedClass}
	slots   = []int{0, 1, 2, 3, 4, 127, 128, 254, api.LastSlot}
	streams = []int{0, 1, 9, 255, 256, 1023, 1024, 2046, api.MaxStream}
	nodes   = []int{0, 1, 2, 15, 16, 30, api.MaxNodes - 1}
)

// noClasses, noSlots, noStreams and noNodes are such as can't be, also some whose lowest bits are those of one that can.
var (
	noClasses = []api.Class{api.SyncClass, -1, -2, -3, 4, 5, 7, 256, 1 << 32, 1<<32 + 1, math.MaxInt, math.MinInt, math.MinInt + 1}
	noSlots   = []int{-1, -2, -255, -256, api.LastSlot + 1, api.LastSlot + 2, 511, 1 << 32, 1<<32 + 3, math.MaxInt, math.MinInt, math.MinInt + 3}
	noStreams = []int{-1, -2, -2047, -2048, api.MaxStream + 1, api.MaxStream + 2, 4095, 1 << 32, 1<<32 + 9, math.MaxInt, math.MinInt, math.MinInt + 9}
	noNodes   = []int{-1, -2, -31, -32, api.MaxNodes, api.MaxNodes + 1, 63, 1 << 32, 1<<32 + 1, math.MaxInt, math.MinInt, math.MinInt + 1}
)

// rights is labels that can be.
func rights() []api.Label {
	var list []api.Label
	for _, c := range classes {
		for _, slot := range slots {
			for _, stream := range streams {
				for _, node := range nodes {
					list = append(list, label(c, slot, stream, node))
				}
			}
		}
	}
	return list
}

// wrongs is labels that can't be: each part out of its bounds, alone and with others.
func wrongs() []api.Label {
	list := []api.Label{{}, label(-1, -1, -1, -1), label(4, 256, 2048, 32), label(0, 255, 2047, 31)}
	for _, c := range noClasses {
		list = append(list, label(c, 0, 0, 0), label(c, 3, 9, 1), label(c, 255, 2047, 31), label(c, 256, 9, 1))
	}
	for _, c := range classes {
		for _, n := range noSlots {
			list = append(list, label(c, n, 0, 0), label(c, n, 9, 1), label(c, n, 2047, 31), label(c, n, 2048, 31))
		}
		for _, n := range noStreams {
			list = append(list, label(c, 0, n, 0), label(c, 3, n, 1), label(c, 255, n, 31), label(c, 255, n, 32))
		}
		for _, n := range noNodes {
			list = append(list, label(c, 0, 0, n), label(c, 3, 9, n), label(c, 255, 2047, n), label(c, -1, 2047, n))
		}
	}
	return list
}

// anyLabel is one that can be; many are alike but for a part.
func anyLabel(chance *rand.Rand) api.Label {
	l := label(api.DmClass, 3, 9, 1)
	if chance.Intn(2) == 0 {
		l.Class = classes[chance.Intn(3)]
	}
	if chance.Intn(2) == 0 {
		l.Slot = chance.Intn(api.LastSlot + 1)
	}
	if chance.Intn(2) == 0 {
		l.Stream = chance.Intn(api.MaxStream + 1)
	}
	if chance.Intn(2) == 0 {
		l.Node = chance.Intn(api.MaxNodes)
	}
	return l
}

func TestRight(t *testing.T) { // P23.1
	for _, l := range rights() {
		if !class.Right(l) {
			t.Errorf("%v can't be", l)
		}
	}
	for _, l := range wrongs() {
		if class.Right(l) {
			t.Errorf("%v can be", l)
		}
	}
}

func TestRightPartByPart(t *testing.T) { // P23.1: just those from the first one to the last one, part by part
	for n := -3000; n <= 3000; n++ {
		for _, c := range []struct {
			l    api.Label
			want bool
		}{
			{label(api.Class(n), 3, 9, 1), n == 1 || n == 2 || n == 3},
			{label(api.FixedClass, n, 9, 1), n >= 0 && n <= 255},
			{label(api.FixedClass, 3, n, 1), n >= 0 && n <= 2047},
			{label(api.FixedClass, 3, 9, n), n >= 0 && n <= 31},
		} {
			if class.Right(c.l) != c.want {
				t.Errorf("Right(%v) = %v", c.l, !c.want)
			}
		}
	}
}

func TestId(t *testing.T) { // P23.1
	for _, c := range []struct {
		l    api.Label
		want uint32
	}{
		{label(api.EdfClass, 0, 0, 0), 0x08000000},
		{label(api.DmClass, 0, 0, 0), 0x10000000},
		{label(api.FixedClass, 0, 0, 0), 0x18000000},
		{label(api.EdfClass, 1, 0, 0), 0x08080000},
		{label(api.EdfClass, 255, 0, 0), 0x0ff80000},
		{label(api.EdfClass, 0, 1, 0), 0x08000100},
		{label(api.EdfClass, 0, 2047, 0), 0x0807ff00},
		{label(api.EdfClass, 0, 0, 1), 0x08000008},
		{label(api.EdfClass, 0, 0, 31), 0x080000f8},
		{label(api.EdfClass, 3, 9, 0), 0x08180900},
		{label(api.DmClass, 128, 1024, 16), 0x14040080},
		{label(api.FixedClass, 255, 2047, 31), 0x1ffffff8},
	} {
		if id, errno := class.Id(c.l); id != long(c.want) || errno != api.OK {
			t.Errorf("Id(%v) = %v, %d; want %#x", c.l, id, errno, c.want)
		}
		if l, ok := class.Of(long(c.want)); l != c.l || !ok {
			t.Errorf("Of(%#x) = %v, %v; want %v", c.want, l, ok, c.l)
		}
	}
	for _, l := range wrongs() {
		if id, errno := class.Id(l); id != (api.Ident{}) || errno != api.ErrRange {
			t.Errorf("Id(%v) = %v, %d", l, id, errno)
		}
	}
}

// none fails unless an identifier is no label's.
func none(t *testing.T, id api.Ident) {
	t.Helper()
	if l, ok := class.Of(id); l != (api.Label{}) || ok {
		t.Errorf("Of(%v) = %v, %v", id, l, ok)
	}
}

func TestOfNone(t *testing.T) { // P23.1
	for n := range uint32(2049) { // not Ext, up to one that can't be
		none(t, api.Ident{N: n})
	}
	for _, l := range rights() {
		id, _ := class.Id(l)
		none(t, api.Ident{N: id.N}) // not Ext, all else as it must be
		for low := range uint32(7) {
			none(t, long(id.N|low+1))
		}
		none(t, long(id.N&(1<<27-1))) // of the class of words
		for _, high := range []uint32{1 << 29, 1 << 30, 1 << 31, 7 << 29} {
			none(t, long(id.N|high))
		}
	}
	for _, n := range []uint32{0, 1, 7, 8, 1<<27 - 8, 1<<27 - 1, 1<<27 + 1, 1<<29 - 1, 1 << 29, 1<<29 + 1<<27, 1<<31 + 1<<27, math.MaxUint32, math.MaxUint32 - 7} {
		none(t, long(n))
		none(t, api.Ident{N: n})
	}
}

func TestThereAndBack(t *testing.T) { // P23.4
	for _, l := range rights() {
		back(t, l)
	}
	chance := rand.New(rand.NewSource(81))
	for range 50000 {
		back(t, anyLabel(chance))
	}
}

// back fails unless Of leads back from a label's identifier, which is one that can be.
func back(t *testing.T, l api.Label) {
	t.Helper()
	id, errno := class.Id(l)
	if !id.Ext || !ident.Right(id) || errno != api.OK {
		t.Fatalf("Id(%v) = %v, %d", l, id, errno)
	}
	if got, ok := class.Of(id); got != l || !ok {
		t.Fatalf("Of(%v) = %v, %v; want %v", id, got, ok, l)
	}
}

func TestBackAndThere(t *testing.T) { // P23.1, P23.4: any identifier
	chance := rand.New(rand.NewSource(82))
	labels := 0
	for range 200000 {
		id := api.Ident{Ext: chance.Intn(8) > 0, N: chance.Uint32() >> (2 + chance.Intn(3))}
		if chance.Intn(4) > 0 {
			id.N &^= 7
		}
		want := id.Ext && id.N < 1<<29 && id.N >= 1<<27 && id.N%8 == 0
		l, ok := class.Of(id)
		if ok != want {
			t.Fatalf("Of(%v) = %v, %v", id, l, ok)
		}
		if !ok {
			none(t, id)
			continue
		}
		labels++
		if got, errno := class.Id(l); got != id || errno != api.OK || !class.Right(l) {
			t.Fatalf("Id(%v) = %v, %d; want %v", l, got, errno, id)
		}
	}
	if labels < 50000 {
		t.Errorf("just %d labels", labels)
	}
}

func TestSlotted(t *testing.T) { // P23.2
	slot := label(api.EdfClass, 3, 9, 1)
	if got := class.Slotted(slot, 200); got != label(api.EdfClass, 200, 9, 1) {
		t.Errorf("Slotted(%v, 200) = %v", slot, got)
	}
	for _, l := range append(rights(), wrongs()...) {
		for _, n := range append(noSlots, slots...) { // also one that can't be: the words ask nothing of it
			want := l
			if l.Class == api.EdfClass {
				want.Slot = n
			}
			if got := class.Slotted(l, n); got != want {
				t.Fatalf("Slotted(%v, %d) = %v; want %v", l, n, got, want)
			}
		}
	}
}

func TestLeast(t *testing.T) { // P23.2
	one, two, three := label(api.EdfClass, 3, 9, 1), label(api.EdfClass, 4, 0, 0), label(api.FixedClass, 0, 0, 0)
	for _, c := range []struct {
		list []api.Label
		want int
	}{
		{[]api.Label{one}, 0},
		{[]api.Label{one, two, three}, 0},
		{[]api.Label{two, one, three}, 1},
		{[]api.Label{three, two, one}, 2},
		{[]api.Label{one, one}, 0}, // the first one of alike ones
		{[]api.Label{one, one, one, two}, 0},
		{[]api.Label{two, one, one}, 1},
		{[]api.Label{three, two, two, three, two}, 1},
		{[]api.Label{{}}, 0}, // those that can't be are held against others, too
		{[]api.Label{one, {}}, 1},
		{[]api.Label{{}, label(-1, 0, 0, 0), one}, 1},
		{[]api.Label{one, label(api.EdfClass, math.MinInt, 9, 1), label(api.EdfClass, math.MaxInt, 9, 1)}, 1},
	} {
		given := slices.Clone(c.list)
		if got, ok := class.Least(c.list...); got != c.want || !ok {
			t.Errorf("Least(%v) = %d, %v; want %d", c.list, got, ok, c.want)
		}
		if !slices.Equal(c.list, given) { // P3
			t.Errorf("%v became %v", given, c.list)
		}
	}
	for _, list := range [][]api.Label{nil, {}, []api.Label{one, two}[:0]} {
		if got, ok := class.Least(list...); got != 0 || ok {
			t.Errorf("Least of none = %d, %v", got, ok)
		}
	}
	if got, ok := class.Least(); got != 0 || ok {
		t.Errorf("Least() = %d, %v", got, ok)
	}
}

func TestLeastOfAny(t *testing.T) { // P23.2
	chance := rand.New(rand.NewSource(83))
	for range 5000 {
		var list []api.Label
		for range 1 + chance.Intn(12) {
			list = append(list, anyLabel(chance))
			if chance.Intn(3) == 0 {
				list = append(list, list[chance.Intn(len(list))])
			}
		}
		want := slices.IndexFunc(list, func(l api.Label) bool {
			return !slices.ContainsFunc(list, func(other api.Label) bool { return class.Before(other, l) })
		})
		if got, ok := class.Least(list...); got != want || !ok {
			t.Fatalf("Least(%v) = %d, %v; want %d", list, got, ok, want)
		}
	}
}
