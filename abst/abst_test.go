package abst_test

import (
	"math"
	"slices"
	"testing"

	"bellbuoy/abst"
	"bellbuoy/api"
)

// Frames that can be, of both sorts, alike but for one thing; and such as can't.
var (
	plain  = api.Frame{Id: api.Ident{N: 0x123}, Len: 1, Data: [8]byte{10}}
	other  = api.Frame{Id: api.Ident{N: 0x123}, Len: 1, Data: [8]byte{11}}
	wide   = api.Frame{Id: api.Ident{Ext: true, N: 0x123}, Len: 1, Data: [8]byte{10}}
	asking = api.Frame{Id: api.Ident{N: 0x123}, Remote: true, Len: 1}
	frames = []api.Frame{plain, other, wide, asking, {}}

	noFrames = []api.Frame{
		{Id: api.Ident{N: 0x800}},
		{Id: api.Ident{Ext: true, N: 1 << 29}},
		{Len: 9},
		{Len: -1},
		{Len: 1, Data: [8]byte{1, 2}},
		{Remote: true, Len: 1, Data: [8]byte{1}},
	}
)

// last is the last bit there is.
const last = api.MaxBits - 1

func gift(node, at int, f api.Frame) abst.Gift { return abst.Gift{Node: node, At: at, Frame: f} }

func happens(at, node int, h api.Happen) api.Entry {
	return api.Entry{At: at, Note: api.Note{Node: node, Happen: h}}
}

func got(at, node int, f api.Frame) api.Entry {
	return happens(at, node, api.Happen{Got: true, Frame: f})
}

func sent(at, node int, f api.Frame) api.Entry {
	return happens(at, node, api.Happen{Sent: true, Frame: f})
}

func began(at, node int) api.Entry { return happens(at, node, api.Happen{Began: true}) }

func gifts(l ...abst.Gift) []abst.Gift { return l }

// checks fails unless entries are refused with that error, at that place, whatever stands behind; those ahead of it pass.
func checks(t *testing.T, l []abst.Gift, place int, errno api.Errno, es ...api.Entry) {
	t.Helper()
	if at, e := abst.Check(l, es); at != place || e != errno {
		t.Fatalf("Check(%v, %v) = %d, %d; want %d, %d", l, es, at, e, place, errno)
	}
	for n := range place + 1 {
		if at, e := abst.Check(l, es[:n]); at != n || e != api.OK {
			t.Fatalf("Check(%v, %v) = %d, %d; want %d, OK", l, es[:n], at, e, n)
		}
	}
	for _, more := range []api.Entry{began(last, 0), began(0, 0), got(last, 0, plain), {}} {
		if at, e := abst.Check(l, append(slices.Clip(es), more)); at != place || e != errno {
			t.Fatalf("Check(%v, %v, %v) = %d, %d; want %d, %d", l, es, more, at, e, place, errno)
		}
	}
}

// passes fails unless entries pass, all of them.
func passes(t *testing.T, l []abst.Gift, es ...api.Entry) {
	t.Helper()
	for n := range len(es) + 1 {
		if at, e := abst.Check(l, es[:n]); at != n || e != api.OK {
			t.Fatalf("Check(%v, %v) = %d, %d; want %d, OK", l, es[:n], at, e, n)
		}
	}
}

func TestGiven(t *testing.T) { // P33.1
	l := gifts(gift(1, 0, plain), gift(1, 5, plain), gift(2, 5, plain), gift(1, 5, other), gift(1, 3, plain), gift(-1, 5, plain), gift(7, -9, wide), gift(32, 6, noFrames[0]))
	for _, c := range []struct {
		node, at int
		f        api.Frame
		want     int
	}{
		{1, -1, plain, 0},
		{1, 0, plain, 1},
		{1, 2, plain, 1},
		{1, 3, plain, 2},
		{1, 4, plain, 2},
		{1, 5, plain, 3},
		{1, math.MaxInt, plain, 3},
		{1, math.MinInt, plain, 0},
		{2, 4, plain, 0},
		{2, 5, plain, 1},
		{3, 5, plain, 0},
		{-1, 0, plain, 1},
		{-1, 4, plain, 2},
		{-1, 5, plain, 5},
		{-2, 5, plain, 0},
		{1, 4, other, 0},
		{1, 5, other, 1},
		{-1, 5, other, 1},
		{7, -10, wide, 0},
		{7, -9, wide, 1},
		{-1, -9, wide, 1},
		{32, 6, noFrames[0], 1},
		{-1, 9, noFrames[1], 0},
		{-1, 9, asking, 0},
		{-1, 9, api.Frame{}, 0},
	} {
		if n := abst.Given(l, c.node, c.at, c.f); n != c.want {
			t.Errorf("Given(%d, %d, %v) = %d; want %d", c.node, c.at, c.f, n, c.want)
		}
	}
	if n := abst.Given(nil, -1, math.MaxInt, plain); n != 0 {
		t.Errorf("Given of none = %d", n)
	}
}

func TestNothing(t *testing.T) { // P33.1, P33.2, example 1
	for _, l := range [][]abst.Gift{nil, {}, {gift(1, 0, plain)}, {gift(-7, math.MinInt, noFrames[0])}} {
		passes(t, l)
		if open := abst.Open(l, nil); !slices.Equal(open, l) {
			t.Errorf("Open(%v) = %v of no entries", l, open)
		}
	}
	if a := abst.Agreed(nil); len(a) != 0 {
		t.Errorf("Agreed = %v of no entries", a)
	}
}

func TestPasses(t *testing.T) { // P33.1: what a bus may do
	passes(t, gifts(gift(1, 0, plain)), got(8, 2, plain), sent(9, 1, plain))
	passes(t, gifts(gift(1, 8, plain)), got(8, 2, plain), sent(9, 1, plain)) // given just ahead of that bit
	passes(t, gifts(gift(31, 0, plain)), got(0, 0, plain), sent(1, 31, plain))
	passes(t, gifts(gift(0, 0, plain)), got(last-1, 31, plain), sent(last, 0, plain))
	passes(t, gifts(gift(0, last, plain)), got(last, 31, plain))
	passes(t, nil, began(0, 0), began(0, 0), began(last, 31), happens(last, 3, api.Happen{Bad: api.Overloads}), happens(last, 1, api.Happen{Lost: true}))
	passes(t, gifts(gift(1, 0, plain)), began(3, 1), got(8, 2, plain), began(8, 7), got(8, 3, plain), got(8, 2, plain), began(9, 0), sent(9, 1, plain), began(9, 2))
	for _, f := range frames {
		passes(t, gifts(gift(1, 0, f), gift(2, 0, f)), got(8, 2, f), sent(9, 1, f), got(20, 1, f), sent(21, 2, f))
		passes(t, gifts(gift(1, 20, f), gift(1, 0, f)), got(8, 2, f), sent(9, 1, f), got(20, 2, f), sent(21, 1, f)) // given anew
	}
	passes(t, gifts(gift(1, 0, plain)), got(8, 2, plain), got(9, 2, plain), got(90, 1, plain)) // it is got again and again, and never sent
	passes(t, gifts(gift(1, 0, plain), gift(2, 0, other)), got(8, 2, plain), got(9, 3, other), sent(9, 1, plain), sent(10, 2, other))
	passes(t, gifts(gift(1, 0, plain), gift(2, 0, plain)), got(8, 1, plain), got(8, 2, plain), sent(9, 1, plain), sent(9, 2, plain)) // two that ask alike
}

func TestKind(t *testing.T) { // P33.1: its note can be
	l := gifts(gift(1, 0, plain))
	wrong := []api.Entry{{}, happens(5, 1, api.Happen{}), began(5, -1), began(5, 32), got(5, -1, plain), sent(6, 32, plain),
		happens(5, 1, api.Happen{Bad: -1}), happens(5, 1, api.Happen{Bad: 7}), happens(5, 1, api.Happen{Sent: true, Got: true, Frame: plain}),
		happens(5, 1, api.Happen{Began: true, Frame: plain})}
	for _, f := range noFrames {
		l = append(l, gift(1, 0, f))
		wrong = append(wrong, got(5, 2, f), sent(5, 1, f))
	}
	for _, e := range wrong {
		checks(t, l, 0, api.ErrKind, e)
		checks(t, l, 1, api.ErrKind, got(5, 2, plain), e)
		checks(t, l, 1, api.ErrKind, began(9, 0), e) // ahead of ErrRange
		for _, at := range []int{-1, api.MaxBits, math.MinInt, math.MaxInt} {
			e.At = at
			checks(t, l, 0, api.ErrKind, e)
		}
	}
}

func TestRange(t *testing.T) { // P33.1: its bit is one, and not less than the one ahead
	l := gifts(gift(1, 0, plain), gift(1, math.MinInt, plain))
	for _, at := range []int{-1, -2, api.MaxBits, api.MaxBits + 1, 1 << 40, math.MinInt, math.MaxInt} {
		for _, e := range []api.Entry{began(at, 0), got(at, 2, plain), sent(at, 1, plain), got(at, 2, other), sent(at, 2, other)} {
			checks(t, l, 0, api.ErrRange, e)
			checks(t, l, 1, api.ErrRange, began(0, 3), e)
			checks(t, l, 2, api.ErrRange, got(8, 3, plain), began(9, 3), e)
		}
	}
	for _, at := range []int{0, 1, 7, 8} {
		for _, e := range []api.Entry{began(at, 0), got(at, 2, plain), sent(at, 1, plain), got(at, 2, other), sent(at, 2, other)} {
			checks(t, l, 1, api.ErrRange, began(9, 3), e)
			checks(t, l, 2, api.ErrRange, got(8, 3, plain), sent(9, 1, plain), e)
		}
	}
	checks(t, l, 1, api.ErrRange, began(last, 3), began(last-1, 3))
	passes(t, l, began(0, 0), began(0, 0), began(1, 0), began(last, 0), began(last, 0))
}

func TestNeverGiven(t *testing.T) { // P33.1, P33.5
	for _, f := range frames {
		for _, l := range [][]abst.Gift{nil, {gift(1, 9, f)}, {gift(1, math.MaxInt, f)}, {gift(1, 0, api.Frame{Id: api.Ident{N: 5}})}} {
			checks(t, l, 0, api.ErrNone, got(8, 2, f))
			checks(t, l, 0, api.ErrNone, sent(8, 1, f)) // ahead of ErrTwice and ErrState
			checks(t, l, 1, api.ErrNone, began(8, 1), got(8, 2, f))
		}
		own := gifts(gift(1, 3, f))
		passes(t, own, got(8, 2, f), got(8, 1, f)) // who was given it, it is not asked
		checks(t, own, 0, api.ErrNone, got(2, 2, f))
		checks(t, own, 1, api.ErrNone, got(8, 3, f), sent(9, 2, f)) // another one was given it
		checks(t, gifts(gift(2, 10, f), gift(1, 3, f)), 1, api.ErrNone, got(8, 3, f), sent(9, 2, f))
		passes(t, gifts(gift(2, 9, f), gift(1, 3, f)), got(8, 3, f), sent(9, 2, f))
		for _, g := range frames {
			if f != g {
				checks(t, gifts(gift(1, 0, f)), 0, api.ErrNone, got(8, 2, g))
				checks(t, gifts(gift(1, 0, f)), 1, api.ErrNone, got(8, 2, f), got(8, 3, g)) // ahead of ErrForm
			}
		}
	}
	checks(t, gifts(gift(-1, 0, plain)), 1, api.ErrNone, got(8, 2, plain), sent(9, 1, plain)) // no node has it
}

func TestTwice(t *testing.T) { // P33.1: not more often than it was given by then
	for _, f := range frames {
		once := []api.Entry{got(8, 2, f), sent(9, 1, f)}
		twice := append(slices.Clone(once), got(20, 2, f), sent(21, 1, f))
		for _, l := range [][]abst.Gift{
			{gift(1, 0, f)},
			{gift(1, 0, f), gift(1, 22, f)},
			{gift(2, 0, f), gift(1, 0, f), gift(2, 9, f)},
			{gift(1, 0, f), gift(1, 0, api.Frame{Id: api.Ident{N: 5}})},
		} {
			checks(t, l, 3, api.ErrTwice, twice...)
			checks(t, l, 2, api.ErrTwice, append(once, sent(9, 1, f))...)
			checks(t, l, 2, api.ErrTwice, append(once, sent(10, 1, f))...) // ahead of ErrState
		}
		for _, l := range [][]abst.Gift{
			{gift(1, 0, f), gift(1, 0, f)},
			{gift(1, 21, f), gift(1, 9, f), gift(2, 0, f)},
			{gift(1, 21, f), gift(1, 8, f)},
			{gift(1, 21, f), gift(2, 0, f), gift(1, -5, f)},
		} {
			passes(t, l, twice...)
			checks(t, l, 5, api.ErrTwice, append(slices.Clone(twice), got(30, 2, f), sent(31, 1, f))...)
		}
		checks(t, gifts(gift(1, 0, f), gift(2, 0, f)), 5, api.ErrTwice, append(slices.Clone(once), got(20, 1, f), sent(21, 2, f), got(30, 1, f), sent(31, 2, f))...)
	}
}

func TestForm(t *testing.T) { // P33.1: at one bit one frame is got
	l := gifts(gift(1, 0, plain), gift(1, 0, other), gift(1, 0, wide), gift(1, 0, asking), gift(1, 0, api.Frame{}))
	for _, f := range frames {
		for _, g := range frames {
			if f == g {
				passes(t, l, got(8, 2, f), got(8, 3, g), got(8, 2, g))
				continue
			}
			checks(t, l, 1, api.ErrForm, got(8, 2, f), got(8, 3, g))
			checks(t, l, 1, api.ErrForm, got(8, 2, f), got(8, 2, g))
			checks(t, l, 3, api.ErrForm, got(8, 2, f), began(8, 3), got(8, 4, f), got(8, 5, g))
			checks(t, l, 2, api.ErrForm, got(7, 2, g), got(8, 2, f), got(8, 3, g))
			checks(t, l, 3, api.ErrForm, got(7, 2, f), got(8, 4, g), sent(8, 1, f), got(8, 5, f))
			passes(t, l, got(8, 2, f), got(9, 3, g), got(10, 3, f))
			passes(t, l, got(8, 2, f), got(9, 2, g), sent(9, 1, f), got(9, 3, g), sent(10, 1, g)) // what is sent may be another one
		}
	}
}

func TestState(t *testing.T) { // P33.1: some other node got it at the bit ahead
	for _, f := range frames {
		g := api.Frame{Id: api.Ident{N: 5}}
		l := gifts(gift(1, 0, f), gift(31, 0, f), gift(0, 0, g))
		checks(t, l, 0, api.ErrState, sent(9, 1, f))
		checks(t, l, 0, api.ErrState, sent(0, 1, f))
		checks(t, l, 0, api.ErrState, sent(last, 1, f))
		checks(t, l, 1, api.ErrState, began(8, 2), sent(9, 1, f))
		checks(t, l, 1, api.ErrState, got(7, 2, f), sent(9, 1, f))
		checks(t, l, 1, api.ErrState, got(9, 2, f), sent(9, 1, f))
		checks(t, l, 1, api.ErrState, got(8, 1, f), sent(9, 1, f)) // itself
		checks(t, l, 1, api.ErrState, got(8, 31, f), sent(9, 31, f))
		checks(t, l, 1, api.ErrState, got(8, 2, g), sent(9, 1, f))
		checks(t, l, 2, api.ErrState, got(7, 2, f), got(8, 2, g), sent(9, 1, f))
		checks(t, l, 2, api.ErrState, got(7, 2, f), began(8, 2), sent(9, 1, f))
		checks(t, l, 2, api.ErrState, got(8, 2, f), got(9, 2, f), sent(10+1, 1, f))
		checks(t, l, 0, api.ErrState, sent(9, 1, f), got(8, 2, f)) // what comes behind is not looked at
		for node := range api.MaxNodes {
			if node != 1 {
				passes(t, l, got(8, node, f), sent(9, 1, f))
				passes(t, l, got(8, node, f), got(8, 1, f), sent(9, 1, f))
				passes(t, l, got(8, 1, f), got(8, node, f), got(9, 3, g), sent(9, 1, f))
			}
			if node != 31 {
				passes(t, l, got(8, node, f), sent(9, 31, f))
			}
		}
	}
}

func TestOpen(t *testing.T) { // P33.2
	a, b, c := gift(1, 0, plain), gift(1, 50, plain), gift(2, 3, plain)
	d, e, x := gift(1, 0, other), gift(-1, 0, plain), gift(1, 0, noFrames[2])
	all := gifts(b, x, a, c, d, b, e)
	for _, k := range []struct {
		t    []api.Entry
		want []abst.Gift
	}{
		{nil, all},
		{[]api.Entry{got(8, 1, plain), began(8, 1)}, all},
		{[]api.Entry{sent(9, 3, plain), sent(9, 1, wide)}, all},
		{[]api.Entry{sent(9, 1, plain)}, gifts(x, a, c, d, b, e)}, // the first one, though that was given later
		{[]api.Entry{sent(9, 1, plain), sent(9, 1, plain)}, gifts(x, c, d, b, e)},
		{[]api.Entry{sent(90, 1, plain), sent(9, 1, plain), sent(-5, 1, plain)}, gifts(x, c, d, e)},
		{[]api.Entry{sent(9, 1, plain), sent(9, 1, plain), sent(9, 1, plain), sent(9, 1, plain)}, gifts(x, c, d, e)},
		{[]api.Entry{sent(9, 1, other), sent(9, 2, plain)}, gifts(b, x, a, b, e)},
		{[]api.Entry{happens(9, 2, api.Happen{Sent: true, Bad: api.AckBad, Lost: true, Frame: plain})}, gifts(b, x, a, d, b, e)},
		{[]api.Entry{happens(9, 2, api.Happen{Sent: true, Got: true, Frame: plain})}, all}, // such as can't be
		{[]api.Entry{happens(9, 2, api.Happen{Sent: true, Bad: 7, Frame: plain})}, all},
		{[]api.Entry{happens(9, 2, api.Happen{Began: true, Frame: plain})}, all},
		{[]api.Entry{sent(9, 1, noFrames[2]), sent(9, -1, plain), sent(9, 32, plain)}, all},
	} {
		if l := abst.Open(all, k.t); !slices.Equal(l, k.want) {
			t.Errorf("Open(%v, %v) = %v; want %v", all, k.t, l, k.want)
		}
	}
	if l := abst.Open(nil, []api.Entry{sent(9, 1, plain)}); len(l) != 0 {
		t.Errorf("Open of none = %v", l)
	}
}

func TestAgreed(t *testing.T) { // P33.2
	agreed := func(at int, f api.Frame, nodes int) abst.Agreement {
		return abst.Agreement{At: at, Frame: f, Nodes: nodes}
	}
	for _, k := range []struct {
		t    []api.Entry
		want []abst.Agreement
	}{
		{[]api.Entry{began(0, 1), sent(0, 1, plain), {}}, nil},
		{[]api.Entry{got(8, 2, plain)}, []abst.Agreement{agreed(8, plain, 1)}},
		{[]api.Entry{got(0, 2, plain), got(0, 3, plain), got(0, 2, plain)}, []abst.Agreement{agreed(0, plain, 3)}},
		{[]api.Entry{got(8, 2, plain), began(8, 1), got(8, 3, plain)}, []abst.Agreement{agreed(8, plain, 2)}},
		{[]api.Entry{got(8, 2, plain), began(9, 1), got(8, 3, plain)}, []abst.Agreement{agreed(8, plain, 1), agreed(8, plain, 1)}}, // it begins anew
		{[]api.Entry{began(8, 1), got(8, 2, plain), got(8, 3, other), got(8, 4, plain), got(8, 5, wide)}, []abst.Agreement{agreed(8, plain, 2)}},
		{[]api.Entry{got(8, 3, other), got(8, 2, plain), got(8, 4, plain)}, []abst.Agreement{agreed(8, other, 1)}},
		{[]api.Entry{got(8, 2, plain), got(9, 2, plain), sent(9, 2, plain), began(10, 2), got(11, 3, api.Frame{})},
			[]abst.Agreement{agreed(8, plain, 1), agreed(9, plain, 1), agreed(11, api.Frame{}, 1)}},
		{[]api.Entry{got(9, 2, plain), sent(5, 3, plain), sent(5, 2, plain), got(5, 1, plain), got(9, 1, plain)},
			[]abst.Agreement{agreed(9, plain, 1), agreed(5, plain, 1), agreed(9, plain, 1)}}, // in the order in which they stand
		{[]api.Entry{got(math.MinInt, -7, noFrames[0]), got(math.MinInt, 99, noFrames[0]), got(math.MaxInt, 0, plain)},
			[]abst.Agreement{agreed(math.MinInt, noFrames[0], 2), agreed(math.MaxInt, plain, 1)}},
		{[]api.Entry{happens(3, 1, api.Happen{Sent: true, Got: true, Frame: plain})}, []abst.Agreement{agreed(3, plain, 1)}},
	} {
		if l := abst.Agreed(k.t); !slices.Equal(l, k.want) {
			t.Errorf("Agreed(%v) = %v; want %v", k.t, l, k.want)
		}
	}
}

func TestStaysAsItIs(t *testing.T) { // P3 of the whole
	l := gifts(gift(1, 9, plain), gift(2, 0, other), gift(1, 0, plain), gift(3, -4, plain))
	es := []api.Entry{got(8, 2, plain), sent(9, 1, plain), got(20, 1, other), sent(21, 2, other)}
	keptGifts, keptEntries := slices.Clone(l), slices.Clone(es)
	same := func() {
		t.Helper()
		if !slices.Equal(l, keptGifts) || !slices.Equal(es, keptEntries) {
			t.Fatalf("what was handed in became %v, %v", l, es)
		}
	}
	abst.Check(l[:3], es[:3])
	abst.Given(l[:3], -1, 9, plain)
	same()
	clear(abst.Open(l[:3], nil))
	same()
	_ = append(abst.Open(l[:3], es[:2]), gift(9, 9, wide), gift(9, 9, wide))
	same()
	_ = append(abst.Open(l[:2], nil), gift(9, 9, wide))
	same()
	clear(abst.Agreed(es))
	same()
}

func TestMany(t *testing.T) { // lists as long as traces are
	var l []abst.Gift
	var es []api.Entry
	for k := range 1 << 15 {
		f := api.Frame{Id: api.Ident{Ext: true, N: uint32(k)}}
		l = append(l, gift(k%31, 1<<15-k, f))
		es = append(es, got(1<<15+k, 31, f), sent(1<<15+k+1, k%31, f))
	}
	slices.SortFunc(es, func(a, b api.Entry) int { return a.At - b.At })
	passes := func(l []abst.Gift, es []api.Entry) {
		t.Helper()
		if at, errno := abst.Check(l, es); at != len(es) || errno != api.OK {
			t.Errorf("Check of many: %d, %d", at, errno)
		}
	}
	passes(l, es)
	if n := len(abst.Open(l, es)); n != 0 {
		t.Errorf("%d of many are open", n)
	}
	if n := len(abst.Agreed(es)); n != 1<<15 {
		t.Errorf("%d of many are agreed", n)
	}
	clear(es)
	clear(l)
	for k := range l { // all of one bit, and of the one behind it
		l[k].Node = 1
		es[k], es[k+len(l)] = got(7, 31, api.Frame{}), sent(8, 1, api.Frame{})
	}
	passes(l, es)
	if at, errno := abst.Check(l[1:], es); at != len(es)-1 || errno != api.ErrTwice {
		t.Errorf("Check of one too few: %d, %d", at, errno)
	}
}
