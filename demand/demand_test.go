package demand_test

import (
	"math"
	"slices"
	"testing"

	"bellbuoy/api"
	"bellbuoy/demand"
	"bellbuoy/stream"
)

// base is one that can be: all others of these tests are like it but for what they say. Its frame costs 160.
var base = api.Stream{Id: 1, Class: api.EdfClass, Period: 2000, Deadline: 1000, Bytes: 8}

// due is a stream whose jobs are a period apart.
func due(id int, period, deadline int64, bytes int) api.Stream {
	return api.Stream{Id: id, Class: api.EdfClass, Period: period, Deadline: deadline, Bytes: bytes}
}

// of is a stream that is of another class.
func of(c api.Class, s api.Stream) api.Stream {
	s.Class = c
	return s
}

// noSpans are neither spans nor horizons, noLengths no lengths of slots.
var (
	noSpans   = []int64{0, -1, -1000, api.MaxHorizon + 1, api.MaxHorizon + 1000, 1 << 32, 1<<32 + 1000, math.MaxInt64, math.MinInt64, math.MinInt64 + 1000}
	noLengths = []int64{0, -1, -1000, api.MaxSpan + 1, 1 << 32, 1<<32 + 1, 1 << 40, math.MaxInt64, math.MinInt64, math.MinInt64 + 1}
)

// refusals are lists that stream.Check refuses, with slots of a bit.
func refusals() [][]api.Stream {
	other := due(2, 2000, 1000, 0)
	lists := [][]api.Stream{
		{{}}, {base, {}}, {base, base}, {base, other, base}, {base, due(-1, 2000, 1000, 8)}, {base, due(2048, 2000, 1000, 8)}, {base, due(2, 1000, 1001, 8)},
		{base, due(2, api.MaxSpan+1, 1000, 8)}, {due(1, 0, 0, 8)}, {due(1, 10, 0, 8)}, {due(1, -10, -10, 8)}, {due(1, 2000, 1000, 9), base}, {due(1, 2000, 1000, -1)},
		{base, of(api.SyncClass, other)}, {base, of(4, other)}, {of(api.DmClass, base), of(api.FixedClass, base)}, {due(1, math.MaxInt64, math.MaxInt64, math.MaxInt)}, {due(1, math.MinInt64, math.MinInt64, math.MinInt)},
	}
	var many []api.Stream
	for i := range api.MaxStreams + 1 {
		many = append(many, due(i, api.MaxSpan, api.MaxSpan, 0))
	}
	return append(lists, many)
}

func TestBlocking(t *testing.T) { // P26.1
	small, middle, great := due(1, 2000, 1000, 0), due(2, 2000, 1000, 5), due(3, 2000, 1000, 8)
	for _, c := range []struct {
		l    []api.Stream
		want int64
	}{
		{nil, 0}, {[]api.Stream{}, 0}, {[]api.Stream{small}, 80}, {[]api.Stream{middle}, 130}, {[]api.Stream{great}, 160},
		{[]api.Stream{small, great, middle}, 160}, {[]api.Stream{middle, small}, 130}, {[]api.Stream{small, small}, 80},
		{[]api.Stream{of(api.DmClass, small)}, 80}, {[]api.Stream{small, of(api.FixedClass, middle)}, 130}, // whatever the class
		{[]api.Stream{{}}, 0}, {[]api.Stream{{}, {Bytes: 8}}, 0}, {[]api.Stream{of(api.SyncClass, great)}, 0}, {[]api.Stream{due(1, 1000, 1001, 8)}, 0}, // those that can't be cost nothing
		{[]api.Stream{due(1, 2000, 1000, 9), small, of(4, great)}, 80}, {[]api.Stream{small, due(-1, 2000, 1000, 8), middle}, 130},
		{slices.Repeat([]api.Stream{small}, 1000), 80}, {append(slices.Repeat([]api.Stream{small}, 1000), great), 160}, // also of more than there may be
	} {
		given := slices.Clone(c.l)
		if got := demand.Blocking(c.l); got != c.want {
			t.Errorf("Blocking(%v) = %d; want %d", c.l, got, c.want)
		}
		if !slices.Equal(c.l, given) { // P3
			t.Errorf("%v became %v", given, c.l)
		}
	}
}

// asks fails unless this is the demand.
func asks(t *testing.T, l []api.Stream, span, length, want int64) {
	t.Helper()
	given := slices.Clone(l)
	if got := demand.Of(l, span, length); got != want {
		t.Fatalf("Of(%v, %d, %d) = %d; want %d", l, span, length, got, want)
	}
	if !slices.Equal(l, given) { // P3
		t.Fatalf("%v became %v", given, l)
	}
}

func TestOf(t *testing.T) { // P26.1
	one := []api.Stream{base}
	two := []api.Stream{base, due(2, 700, 300, 0)}
	for _, c := range []struct {
		l                  []api.Stream
		span, length, want int64
	}{
		{one, 1, 1, 0}, {one, 999, 1, 0}, {one, 1000, 1, 160}, {one, 1001, 1, 160}, // just due, and a bit less
		{one, 2999, 1, 160}, {one, 3000, 1, 320}, {one, 4999, 1, 320}, {one, 5000, 1, 480},
		{one, 901, 100, 160}, {one, 900, 100, 0}, {one, 2901, 100, 320}, {one, 2900, 100, 160}, // a slot less one sooner
		{one, 1, 1000, 160}, {one, 1, 999, 0}, {one, 2, 999, 160}, {one, 2000, 1000, 160}, {one, 2001, 1000, 320},
		{one, api.MaxHorizon, 1, 33 * 160}, {one, api.MaxHorizon - 1, 1, 33 * 160},
		{two, 299, 1, 0}, {two, 300, 1, 80}, {two, 999, 1, 80}, {two, 1000, 1, 2*80 + 160}, {two, 1700, 1, 3*80 + 160}, {two, 3000, 1, 4*80 + 2*160}, {two, 3100, 1, 5*80 + 2*160},
		{two, 1, 300, 80}, {two, 701, 300, 2*80 + 160}, {two, 700, 300, 80},
		{[]api.Stream{due(0, 1, 1, 0)}, 1, 1, 80}, {[]api.Stream{due(0, 1, 1, 0)}, 77, 1, 77 * 80}, {[]api.Stream{due(0, 1, 1, 8)}, api.MaxHorizon, 1, api.MaxHorizon * 160},
		{[]api.Stream{due(0, api.MaxSpan, api.MaxSpan, 8)}, api.MaxHorizon, 1, 0}, {[]api.Stream{due(0, api.MaxSpan, api.MaxSpan, 8)}, 1, api.MaxSpan, 160}, {[]api.Stream{due(0, api.MaxSpan, api.MaxSpan, 8)}, 1, api.MaxSpan - 1, 0},
		{[]api.Stream{due(0, api.MaxSpan, api.MaxSpan, 8)}, api.MaxHorizon, api.MaxSpan, 160}, {[]api.Stream{due(0, api.MaxSpan, api.MaxHorizon, 8)}, api.MaxHorizon, 1, 160}, {[]api.Stream{due(0, api.MaxSpan, api.MaxHorizon+1, 8)}, api.MaxHorizon, 1, 0},
		{nil, 1, 1, 0}, {nil, api.MaxHorizon, api.MaxSpan, 0}, {[]api.Stream{}, 1000, 1, 0},
		{[]api.Stream{of(api.DmClass, base), of(api.FixedClass, due(2, 1, 1, 8))}, 1000, 1, 0}, // of other classes nothing is due
		{[]api.Stream{of(api.DmClass, due(2, 1, 1, 8)), base}, 1000, 1, 160},
		{[]api.Stream{of(api.DmClass, due(2, 1, 1, 8)), base}, 1000, 2, 160}, // nor is a slot too long for them
	} {
		asks(t, c.l, c.span, c.length, c.want)
	}
}

func TestOfNothing(t *testing.T) { // P26.1
	l := []api.Stream{due(0, 1, 1, 0), due(1, 2000, 1000, 8)}
	for _, span := range noSpans {
		asks(t, l, span, 1, 0)
		asks(t, []api.Stream{due(1, 2000, 1000, 8)}, span, 1000, 0)
		asks(t, nil, span, 1, 0)
	}
	for _, length := range noLengths {
		asks(t, l, 1000, length, 0)
		asks(t, nil, 1000, length, 0)
	}
	asks(t, l, 1000, 2, 0) // a deadline within a slot
	asks(t, []api.Stream{base}, 1000, 1001, 0)
	for _, refused := range refusals() {
		if _, errno := stream.Check(refused, 1); errno == api.OK {
			t.Fatalf("%v can be", refused)
		}
		for _, span := range []int64{1, 1000, 5000, api.MaxHorizon} {
			asks(t, refused, span, 1, 0)
		}
	}
}

func TestLoad(t *testing.T) { // P26.1
	for _, c := range []struct {
		l    []api.Stream
		want int64
	}{
		{nil, 0}, {[]api.Stream{}, 0}, {[]api.Stream{base}, 80000},
		{[]api.Stream{due(1, 3, 1, 8)}, 53333334}, {[]api.Stream{due(1, 3, 1, 7)}, 50000000}, {[]api.Stream{due(1, 3, 1, 6)}, 46666667}, // rounded up
		{[]api.Stream{due(1, 3, 1, 8), due(2, 3, 1, 6)}, 53333334 + 46666667}, // each, not what they make together
		{[]api.Stream{due(1, 1, 1, 8)}, 160000000}, {[]api.Stream{due(1, api.MaxSpan, 1, 8)}, 1}, {[]api.Stream{due(1, api.MaxSpan, api.MaxSpan, 0)}, 1},
		{[]api.Stream{due(1, 80000000, 1, 0)}, 1}, {[]api.Stream{due(1, 79999999, 1, 0)}, 2}, {[]api.Stream{due(1, 80000001, 1, 0)}, 1}, {[]api.Stream{due(1, 40000000, 1, 0)}, 2},
		{[]api.Stream{base, of(api.DmClass, due(2, 1, 1, 8)), of(api.FixedClass, due(3, 1, 1, 8)), due(4, 160, 160, 8)}, 1080000}, // just those with deadlines
		{[]api.Stream{of(api.DmClass, base)}, 0},
	} {
		given := slices.Clone(c.l)
		if got := demand.Load(c.l); got != c.want {
			t.Errorf("Load(%v) = %d; want %d", c.l, got, c.want)
		}
		if !slices.Equal(c.l, given) { // P3
			t.Errorf("%v became %v", given, c.l)
		}
	}
	for _, refused := range refusals() {
		if got := demand.Load(refused); got != 0 {
			t.Errorf("Load(%v) = %d", refused, got)
		}
	}
}

// passes fails unless that is what Passes answers; at 0 is that they pass.
func passes(t *testing.T, l []api.Stream, length, horizon, at int64) {
	t.Helper()
	tells(t, l, length, horizon, at, at == 0)
}

func tells(t *testing.T, l []api.Stream, length, horizon, at int64, want bool) {
	t.Helper()
	given := slices.Clone(l)
	if got, ok := demand.Passes(l, length, horizon); got != at || ok != want {
		t.Fatalf("Passes(%v, %d, %d) = %d, %v; want %d, %v", l, length, horizon, got, ok, at, want)
	}
	if !slices.Equal(l, given) { // P3
		t.Fatalf("%v became %v", given, l)
	}
}

func TestPasses(t *testing.T) { // P26.2
	one := []api.Stream{base}
	even := []api.Stream{due(1, 320, 320, 8)}                     // 160 of it, and 160 that block
	two := []api.Stream{due(1, 300, 300, 0), due(2, 400, 400, 8)} // 80 and 160, and 160 that block
	long := []api.Stream{due(1, api.MaxSpan, api.MaxSpan, 8)}
	others := []api.Stream{due(1, 500, 500, 0), of(api.FixedClass, due(2, 1, 1, 8))} // 80, and 160 that block
	for _, c := range []struct {
		l                   []api.Stream
		length, horizon, at int64
	}{
		{nil, 1, 1, 0}, {nil, 1, api.MaxHorizon, 0}, {[]api.Stream{}, api.MaxSpan, 5000, 0}, // example 1
		{one, 1, 1, 0}, {one, 1, 5000, 0}, {one, 1, api.MaxHorizon, 0}, {one, 1000, 1, 1}, {one, 1000, api.MaxHorizon, 1},
		{one, 681, 320, 0}, {one, 681, 5000, 0}, {one, 682, 318, 0}, {one, 682, 319, 319}, {one, 682, 5000, 319},
		{even, 1, 320, 0}, {even, 1, api.MaxHorizon, 0}, {even, 2, 318, 0}, {even, 2, 319, 319}, {even, 2, api.MaxHorizon, 319}, // just what there is is not too much
		{[]api.Stream{due(1, 320, 319, 8)}, 1, 318, 0}, {[]api.Stream{due(1, 320, 319, 8)}, 1, 319, 319}, {[]api.Stream{due(1, 320, 319, 8)}, 1, 320, 319},
		{[]api.Stream{due(1, 1, 1, 0)}, 1, 1, 1}, {[]api.Stream{due(1, 1, 1, 0)}, 1, api.MaxHorizon, 1}, {[]api.Stream{due(1, 160, 160, 0)}, 1, api.MaxHorizon, 0}, {[]api.Stream{due(1, 159, 159, 0)}, 1, api.MaxHorizon, 159},
		{two, 1, api.MaxHorizon, 0}, {two, 2, 398, 0}, {two, 2, 399, 399}, {two, 2, api.MaxHorizon, 399}, {two, 61, api.MaxHorizon, 340}, {two, 62, api.MaxHorizon, 239}, {two, 62, 238, 0}, {two, 300, 1, 1},
		{others, 261, api.MaxHorizon, 0}, {others, 262, api.MaxHorizon, 239}, {others, 262, 238, 0}, // others block
		{[]api.Stream{of(api.DmClass, due(1, 1, 1, 8)), of(api.FixedClass, due(2, 1, 1, 8))}, 1, api.MaxHorizon, 0}, // and ask for nothing
		{long, 1, api.MaxHorizon, 0}, {long, api.MaxSpan, 1, 1}, {long, api.MaxSpan - 319, api.MaxHorizon, 0}, {long, api.MaxSpan - 318, api.MaxHorizon, 319},
	} {
		passes(t, c.l, c.length, c.horizon, c.at)
	}
}

func TestPassesNothing(t *testing.T) { // P26.2
	l := []api.Stream{base}
	for _, horizon := range noSpans {
		tells(t, l, 1, horizon, 0, false)
		tells(t, l, 1000, horizon, 0, false)
		tells(t, nil, 1, horizon, 0, false)
	}
	for _, length := range noLengths {
		tells(t, l, length, 5000, 0, false)
		tells(t, nil, length, 5000, 0, false)
	}
	tells(t, l, 1001, 5000, 0, false) // a deadline within a slot
	for _, refused := range refusals() {
		tells(t, refused, 1, 5000, 0, false)
		tells(t, refused, 1, 1, 0, false)
	}
}
