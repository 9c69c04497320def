package inbox

import (
	"math"
	"math/rand"
	"slices"
	"testing"

	"bellbuoy/api"
)

func short(n uint32) api.Ident { return api.Ident{N: n} }
func long(n uint32) api.Ident  { return api.Ident{Ext: true, N: n} }

// got is the one of a number: no two are alike.
func got(n int) api.Stamped {
	f := api.Frame{Id: short(uint32(n) % 2048), Len: 2, Data: [8]byte{byte(n), byte(n >> 8)}}
	return api.Stamped{Frame: f, From: int64(10 * n), To: int64(10*n + 7)}
}

func made(t *testing.T, room int, l ...api.Filter) *Inbox {
	t.Helper()
	b, errno := New(room, l...)
	if b == nil || errno != api.OK {
		t.Fatalf("New(%d, %v) = %v, %d", room, l, b, errno)
	}
	return b
}

// offers fails unless a frame is laid in, or not.
func offers(t *testing.T, b *Inbox, s api.Stamped, want bool) {
	t.Helper()
	if b.Offer(s) != want {
		t.Fatalf("Offer(%v); want %v", s, want)
	}
}

// pops fails unless that frame is the oldest one.
func pops(t *testing.T, b *Inbox, want api.Stamped) {
	t.Helper()
	if s, ok := b.Pop(); s != want || !ok {
		t.Fatalf("Pop() = %v, %v; want %v", s, ok, want)
	}
}

// dry fails unless nothing waits.
func dry(t *testing.T, b *Inbox) {
	t.Helper()
	for range 2 {
		if s, ok := b.Pop(); s != (api.Stamped{}) || ok || b.Len() != 0 {
			t.Fatalf("Pop() = %v, %v of none; %d wait", s, ok, b.Len())
		}
	}
}

// has fails unless so many wait, and one was lost or not.
func has(t *testing.T, b *Inbox, n int, overrun bool) {
	t.Helper()
	if b.Len() != n || b.Overrun() != overrun {
		t.Fatalf("%d wait, overrun %v; want %d, %v", b.Len(), b.Overrun(), n, overrun)
	}
}

func TestNew(t *testing.T) { // P14.1
	for _, room := range []int{0, -1, -2, api.MaxFifo + 1, 100, 1 << 32, math.MinInt, math.MaxInt} {
		for _, filters := range []int{0, 1, api.MaxFilters, api.MaxFilters + 1} { // the room's error is the first one
			if b, errno := New(room, make([]api.Filter, filters)...); b != nil || errno != api.ErrRange {
				t.Errorf("New(%d, %d filters) = %v, %d", room, filters, b, errno)
			}
		}
	}
	for room := 1; room <= api.MaxFifo; room++ {
		for _, filters := range []int{api.MaxFilters + 1, api.MaxFilters + 2, 1000} {
			if b, errno := New(room, make([]api.Filter, filters)...); b != nil || errno != api.ErrLong {
				t.Errorf("New(%d, %d filters) = %v, %d", room, filters, b, errno)
			}
		}
		for filters := range api.MaxFilters + 1 {
			b := made(t, room, make([]api.Filter, filters)...)
			has(t, b, 0, false)
			dry(t, b)
			has(t, b, 0, false)
		}
	}
}

func TestNil(t *testing.T) { // P14.2
	var b *Inbox
	for _, s := range []api.Stamped{{}, got(1), {Frame: api.Frame{Id: long(5)}}, {Frame: api.Frame{Len: 9}}} {
		if b.Lets(s.Frame) {
			t.Errorf("Lets(%v)", s.Frame)
		}
		offers(t, b, s, false)
	}
	has(t, b, 0, false)
	b.Clear()
	has(t, b, 0, false)
	dry(t, b)
}

func TestRoom(t *testing.T) { // P14.1 to P14.3, example 1: up to the room, and past it
	for room := 1; room <= api.MaxFifo; room++ {
		b := made(t, room)
		for n := range room {
			offers(t, b, got(n), true)
			has(t, b, n+1, false)
		}
		for n := range 3 {
			offers(t, b, got(1000+n), false)
			has(t, b, room, true)
		}
		for n := range room {
			pops(t, b, got(n))
			has(t, b, room-n-1, true)
		}
		dry(t, b)
		has(t, b, 0, true)
	}
}

func TestBehindPopped(t *testing.T) { // P14.1 to P14.4: what is popped makes room for as many, at each place
	for room := 1; room <= api.MaxFifo; room++ {
		for taken := 1; taken <= room; taken++ {
			b := made(t, room)
			next, oldest := 0, 0
			for range 2*room + 3 {
				for next < oldest+room {
					offers(t, b, got(next), true)
					next++
				}
				has(t, b, room, false)
				offers(t, b, got(2000), false)
				has(t, b, room, true)
				b.Clear()
				has(t, b, room, false)
				for range taken {
					pops(t, b, got(oldest))
					oldest++
				}
				has(t, b, room-taken, false)
			}
			for ; oldest < next; oldest++ {
				pops(t, b, got(oldest))
			}
			dry(t, b)
		}
	}
}

func TestOneByOne(t *testing.T) { // P14.3: each once, however many went through
	for room := 1; room <= api.MaxFifo; room++ {
		b := made(t, room)
		for n := range 200 {
			offers(t, b, got(n), true)
			has(t, b, 1, false)
			pops(t, b, got(n))
			has(t, b, 0, false)
		}
		dry(t, b)
	}
}

func TestAlike(t *testing.T) { // P14.3: alike ones are laid in each by itself, as they are
	b := made(t, 3)
	for _, s := range []api.Stamped{got(5), got(5), {}} {
		offers(t, b, s, true)
	}
	pops(t, b, got(5))
	pops(t, b, got(5))
	pops(t, b, api.Stamped{})
	dry(t, b)
}

func TestStamps(t *testing.T) { // P14.1: nothing is asked of stamps, and of frames just what filters ask
	list := []api.Stamped{
		{From: math.MaxInt64, To: math.MinInt64},
		{Frame: api.Frame{Id: short(math.MaxUint32), Remote: true, Len: -1, Data: [8]byte{1, 2, 3, 4, 5, 6, 7, 8}}, From: -1},
		{Frame: api.Frame{Id: long(math.MaxUint32), Len: math.MaxInt}, To: 1 << 60},
	}
	b := made(t, len(list))
	for _, s := range list {
		if !b.Lets(s.Frame) {
			t.Errorf("Lets(%v) without filters", s.Frame)
		}
		offers(t, b, s, true)
	}
	for _, s := range list {
		pops(t, b, s)
	}
}

func TestOverrun(t *testing.T) { // P14.1, P14.2, P14.4: it stays, whatever happens, until it is cleared
	b := made(t, 2)
	b.Clear()
	has(t, b, 0, false)
	offers(t, b, got(1), true)
	offers(t, b, got(2), true)
	has(t, b, 2, false)
	offers(t, b, got(3), false)
	has(t, b, 2, true)
	pops(t, b, got(1))
	has(t, b, 1, true)
	offers(t, b, got(4), true)
	has(t, b, 2, true)
	pops(t, b, got(2))
	pops(t, b, got(4))
	dry(t, b)
	has(t, b, 0, true)
	offers(t, b, got(5), true)
	has(t, b, 1, true)
	b.Clear()
	has(t, b, 1, false)
	b.Clear()
	has(t, b, 1, false)
	offers(t, b, got(6), true)
	offers(t, b, got(7), false)
	has(t, b, 2, true)
	pops(t, b, got(5))
	pops(t, b, got(6))
	dry(t, b)
}

func TestWhatDoesNotComeThrough(t *testing.T) { // P14.1: it is not lost for want of room
	b := made(t, 1, api.Filter{Mask: 7, Match: 3})
	other := api.Stamped{Frame: api.Frame{Id: short(4)}}
	through := api.Stamped{Frame: api.Frame{Id: short(11)}, From: 1, To: 2}
	offers(t, b, other, false)
	has(t, b, 0, false)
	offers(t, b, through, true)
	offers(t, b, other, false)
	has(t, b, 1, false)
	offers(t, b, api.Stamped{Frame: api.Frame{Id: long(11)}}, false)
	has(t, b, 1, false)
	offers(t, b, through, false)
	has(t, b, 1, true)
	pops(t, b, through)
	dry(t, b)
}

func TestLets(t *testing.T) { // P14.1, P14.5
	const all = math.MaxUint32
	for _, x := range []struct {
		l    []api.Filter
		id   api.Ident
		want bool
	}{
		{nil, short(0), true},
		{nil, long(1<<29 - 1), true},
		{[]api.Filter{}, long(5), true},
		{[]api.Filter{{}}, short(0x7ff), true},
		{[]api.Filter{{}}, long(0), false}, // a filter of nothing but zeros is one, too
		{[]api.Filter{{Match: 0x123}}, short(0x456), true},
		{[]api.Filter{{Match: 0x123}}, long(0x123), false},
		{[]api.Filter{{Ext: true}}, short(0), false},
		{[]api.Filter{{Ext: true, Match: all}}, long(0), true},
		{[]api.Filter{{Mask: all, Match: 0x123}}, short(0x123), true},
		{[]api.Filter{{Mask: all, Match: 0x123}}, short(0x122), false},
		{[]api.Filter{{Mask: all, Match: 0x123}}, long(0x123), false},
		{[]api.Filter{{Ext: true, Mask: all, Match: 0x123}}, short(0x123), false},
		{[]api.Filter{{Ext: true, Mask: all, Match: 0x123}}, long(0x123), true},
		{[]api.Filter{{Mask: 0x7ff, Match: 0x923}}, short(0x123), true}, // what no bit of Mask asks for may be any
		{[]api.Filter{{Mask: all, Match: 0x923}}, short(0x123), false},
		{[]api.Filter{{Mask: 7, Match: 3}}, short(11), true},
		{[]api.Filter{{Mask: 7, Match: 3}}, short(4), false},
		{[]api.Filter{{Mask: 8, Match: 0}}, short(7), true},
		{[]api.Filter{{Mask: 8, Match: 0}}, short(8), false},
		{[]api.Filter{{Mask: 7, Match: 3}, {Mask: 7, Match: 4}}, short(12), true}, // one of them is enough
		{[]api.Filter{{Mask: 7, Match: 3}, {Mask: 7, Match: 4}}, short(11), true},
		{[]api.Filter{{Mask: 7, Match: 3}, {Mask: 7, Match: 4}}, short(13), false},
		{[]api.Filter{{Mask: 1, Match: 1}, {Mask: 2, Match: 2}}, short(0), false},
		{[]api.Filter{{Mask: all, Match: 1}, {Ext: true}}, long(77), true}, // each for itself: not one's Ext and another one's Mask
		{[]api.Filter{{Mask: all, Match: 1}, {Ext: true}}, short(77), false},
		{[]api.Filter{{Ext: true, Mask: 1, Match: 1}, {Mask: 1}}, long(2), false},
	} {
		b := made(t, 1, x.l...)
		for _, f := range []api.Frame{{Id: x.id}, {Id: x.id, Remote: true, Len: 3}, {Id: x.id, Len: 8, Data: [8]byte{1, 7: 255}}} { // it is the identifier alone that is asked
			if b.Lets(f) != x.want {
				t.Errorf("filters %v: Lets(%v); want %v", x.l, f, x.want)
			}
			has(t, b, 0, false)
			offers(t, b, api.Stamped{Frame: f}, x.want)
			if x.want {
				pops(t, b, api.Stamped{Frame: f})
			}
			dry(t, b)
			has(t, b, 0, false)
		}
	}
}

func TestEachBitOfMask(t *testing.T) { // P14.1
	for _, ext := range []bool{false, true} {
		for bit := range 32 {
			for other := range 32 {
				b := made(t, 1, api.Filter{Ext: ext, Mask: 1 << bit, Match: 0x2a5a5a5a})
				n := uint32(0x2a5a5a5a) ^ 1<<other
				if b.Lets(api.Frame{Id: api.Ident{Ext: ext, N: n}}) != (bit != other) || b.Lets(api.Frame{Id: api.Ident{Ext: !ext, N: n}}) {
					t.Errorf("Mask of bit %d, Ext %v: a number unlike in bit %d", bit, ext, other)
				}
			}
		}
	}
}

func TestMaskOfNothing(t *testing.T) { // P14.5
	chance := rand.New(rand.NewSource(32))
	for range 2000 {
		f := api.Frame{Id: api.Ident{Ext: chance.Intn(2) == 0, N: chance.Uint32()}, Remote: chance.Intn(2) == 0}
		through := made(t, 1, api.Filter{Ext: f.Id.Ext, Match: chance.Uint32()})
		not := made(t, 1, api.Filter{Ext: !f.Id.Ext, Match: chance.Uint32()})
		if !through.Lets(f) || not.Lets(f) {
			t.Fatalf("Lets(%v) = %v; of one that is not Ext as it is %v", f, through.Lets(f), not.Lets(f))
		}
	}
}

func TestEachFilter(t *testing.T) { // P14.1: each of them is asked, from the first one to the last
	for n := 1; n <= api.MaxFilters; n++ {
		var l []api.Filter
		for k := range n {
			l = append(l, api.Filter{Ext: k%2 == 1, Mask: math.MaxUint32, Match: uint32(100 + k)})
		}
		b := made(t, 1, l...)
		for k := range api.MaxFilters + 1 {
			f := api.Frame{Id: api.Ident{Ext: k%2 == 1, N: uint32(100 + k)}}
			if b.Lets(f) != (k < n) {
				t.Errorf("%d filters: Lets(%v) = %v", n, f, b.Lets(f))
			}
		}
	}
}

func TestFiltersAreItsOwn(t *testing.T) { // P3: what is handed in stays as it is, and is not kept
	list := []api.Filter{{Mask: 7, Match: 3}, {Ext: true, Mask: 7, Match: 4}, {Mask: 7, Match: 5}}
	before := slices.Clone(list)
	b := made(t, 2, list[:2]...)
	offers(t, b, got(3), true)
	offers(t, b, got(5), false)
	pops(t, b, got(3))
	if !slices.Equal(list, before) {
		t.Errorf("the filters are %v; want %v", list, before)
	}
	clear(list)
	if !b.Lets(api.Frame{Id: short(3)}) || b.Lets(api.Frame{Id: short(5)}) || b.Lets(api.Frame{Id: long(0)}) {
		t.Error("it lets through what the caller's list says by now")
	}
}

func TestApart(t *testing.T) { // P5: each has its own
	one, two := made(t, 1), made(t, 1)
	offers(t, one, got(1), true)
	offers(t, one, got(2), false)
	has(t, two, 0, false)
	offers(t, two, got(3), true)
	two.Clear()
	has(t, one, 1, true)
	pops(t, one, got(1))
	pops(t, two, got(3))
}

// model is an inbox, as the chapter says it.
type model struct {
	room    int
	filters []api.Filter
	all     []api.Stamped // those that were laid in, ever
	popped  int
	overrun bool
}

func (m *model) lets(id api.Ident) bool {
	for _, x := range m.filters {
		through := x.Ext == id.Ext
		for bit := range 32 {
			if x.Mask>>bit&1 == 1 && x.Match>>bit&1 != id.N>>bit&1 {
				through = false
			}
		}
		if through {
			return true
		}
	}
	return len(m.filters) == 0
}

func (m *model) offer(s api.Stamped) bool {
	if !m.lets(s.Frame.Id) {
		return false
	}
	if len(m.all)-m.popped == m.room {
		m.overrun = true
		return false
	}
	m.all = append(m.all, s)
	return true
}

func TestAnyCalls(t *testing.T) { // P14.1 to P14.4
	chance := rand.New(rand.NewSource(33))
	for range 300 {
		m := &model{room: 1 + chance.Intn(api.MaxFifo)}
		for range chance.Intn(api.MaxFilters + 1) {
			m.filters = append(m.filters, api.Filter{Ext: chance.Intn(2) == 0, Mask: chance.Uint32() & chance.Uint32() & 15, Match: chance.Uint32()})
		}
		b := made(t, m.room, m.filters...)
		for range 200 {
			switch n := chance.Intn(40); {
			case n == 0:
				b.Clear()
				m.overrun = false
			case n > 12:
				s := api.Stamped{Frame: api.Frame{Id: api.Ident{Ext: chance.Intn(2) == 0, N: chance.Uint32() % 64}}, From: chance.Int63(), To: chance.Int63()}
				offers(t, b, s, m.offer(s))
			case m.popped == len(m.all):
				dry(t, b)
			default:
				pops(t, b, m.all[m.popped])
				m.popped++
			}
			has(t, b, len(m.all)-m.popped, m.overrun)
		}
	}
}
