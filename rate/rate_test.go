package rate_test

import (
	"math"
	"math/big"
	"math/rand"
	"slices"
	"testing"

	"bellbuoy/api"
	"bellbuoy/rate"
)

// tells fails unless two samples tell that rate.
func tells(t *testing.T, a, b rate.Sample, most, want int64) {
	t.Helper()
	if got, ok := rate.Of(a, b, most); got != want || !ok {
		t.Errorf("Of(%v, %v, %d) = %d, %v; want %d", a, b, most, got, ok, want)
	}
}

// tellsNone fails unless two samples tell no rate.
func tellsNone(t *testing.T, a, b rate.Sample, most int64) {
	t.Helper()
	if got, ok := rate.Of(a, b, most); got != api.One || ok {
		t.Errorf("Of(%v, %v, %d) = %d, %v; want One, false", a, b, most, got, ok)
	}
}

func made(t *testing.T, most int64, many int) *rate.Estimator {
	t.Helper()
	e, errno := rate.New(most, many)
	if e == nil || errno != api.OK {
		t.Fatalf("New(%d, %d) = %v, %d", most, many, e, errno)
	}
	return e
}

// has fails unless an estimator has that rate, of so many.
func has(t *testing.T, e *rate.Estimator, want int64, many int) {
	t.Helper()
	if e.Rate() != want || e.Many() != many {
		t.Errorf("rate %d of %d; want %d of %d", e.Rate(), e.Many(), want, many)
	}
}

// adds fails unless a sample makes a rate, or not.
func adds(t *testing.T, e *rate.Estimator, there, here int64, want bool) {
	t.Helper()
	if got := e.Add(rate.Sample{There: there, Here: here}); got != want {
		t.Errorf("Add({%d, %d}) = %v", there, here, got)
	}
}

// feeder gives an estimator samples that tell the rates that are asked for.
type feeder struct {
	t   *testing.T
	e   *rate.Estimator
	now rate.Sample
}

func feed(t *testing.T, e *rate.Estimator) *feeder {
	t.Helper()
	adds(t, e, 0, 0, false)
	return &feeder{t: t, e: e}
}

// off gives samples that tell rates that are so far off One.
func (f *feeder) off(list ...int64) {
	f.t.Helper()
	for _, off := range list {
		f.now.There += api.One + off
		f.now.Here += api.One
		adds(f.t, f.e, f.now.There, f.now.Here, true)
	}
}

func TestOf(t *testing.T) { // P18.1, example 1
	for _, x := range []struct{ there, here, most, want int64 }{
		{1001, 1000, 4096, api.One + 1048}, // 1048.576
		{999, 1000, 4096, api.One - 1049},
		{1000, 1000, 4096, api.One},
		{1, 1, 4096, api.One},
		{1, 1, 0, api.One},
		{1001, 1000, 1049, api.One + 1048},
		{1001, 1000, 1048, api.One + 1048},
		{1001, 1000, 1047, api.One + 1047},
		{1001, 1000, 1, api.One + 1},
		{1001, 1000, 0, api.One},
		{999, 1000, 1050, api.One - 1049},
		{999, 1000, 1049, api.One - 1049},
		{999, 1000, 1048, api.One - 1048},
		{999, 1000, 1, api.One - 1},
		{999, 1000, 0, api.One},
		{257, 256, 4096, api.One + 4096},
		{257, 256, 4095, api.One + 4095},
		{255, 256, 4096, api.One - 4096},
		{255, 256, 4095, api.One - 4095},
		{258, 256, 4096, api.One + 4096},
		{254, 256, 4096, api.One - 4096},
		{2, 1, 4096, api.One + 4096},
		{1, 2, 4096, api.One - 4096},
		{api.One + 1, api.One, 4096, api.One + 1},
		{api.One - 1, api.One, 4096, api.One - 1},
		{2*api.One + 1, 2 * api.One, 4096, api.One}, // rounded down
		{2*api.One - 1, 2 * api.One, 4096, api.One - 1},
		{1, math.MaxInt64, 4096, api.One - 4096},
		{1, math.MaxInt64, 0, api.One},
	} {
		b := rate.Sample{There: x.there, Here: x.here}
		tells(t, rate.Sample{}, b, x.most, x.want)
		for _, from := range []rate.Sample{{There: 5, Here: 5}, {There: -700, Here: 40000}, {There: 1 << 50, Here: -1 << 40}} {
			if b.Here > math.MaxInt64-from.Here {
				continue
			}
			tells(t, from, rate.Sample{There: from.There + b.There, Here: from.Here + b.Here}, x.most, x.want)
		}
	}
}

func TestOfMost(t *testing.T) { // P18.1: 0 and MaxTune, and one outside each
	a, b := rate.Sample{There: 3, Here: 2}, rate.Sample{There: 1004, Here: 1002}
	for _, most := range []int64{-1, -2, -api.MaxTune, api.MaxTune + 1, api.MaxTune + 2, api.One, 1 << 32, 1<<32 + 5, math.MaxInt64, math.MinInt64} {
		tellsNone(t, a, b, most)
		tellsNone(t, b, a, most)
		tellsNone(t, a, rate.Sample{There: 1003, Here: 1002}, most) // though that is just One
		tellsNone(t, a, a, most)
	}
	tells(t, a, b, 0, api.One)
	tells(t, a, b, api.MaxTune, api.One+1048)
}

func TestOfWhatDoesNotRise(t *testing.T) { // P18.1: There, or Here, is the same, or falls
	for _, a := range []rate.Sample{{}, {There: 100, Here: 100}, {There: -7, Here: 1 << 40}, {There: -1 << 60, Here: -1 << 60}} {
		for _, most := range []int64{0, 1, api.MaxTune} {
			for _, rise := range []int64{1, 2, 1000, 1 << 50} {
				for _, fall := range []int64{0, -1, -2, -1000, -rise} {
					tellsNone(t, a, rate.Sample{There: a.There + rise, Here: a.Here + fall}, most)
					tellsNone(t, a, rate.Sample{There: a.There + fall, Here: a.Here + rise}, most)
					tellsNone(t, a, rate.Sample{There: a.There + fall, Here: a.Here + fall}, most)
				}
				tells(t, a, rate.Sample{There: a.There + rise, Here: a.Here + rise}, most, api.One)
			}
		}
	}
}

func TestOfGreatDifferences(t *testing.T) { // P18.1: differences, and rates, that are no number of 64 bits
	least, most := int64(math.MinInt64), int64(math.MaxInt64)
	for _, x := range []struct {
		a, b rate.Sample
		want int64 // 0: none
	}{
		{rate.Sample{There: 0, Here: 0}, rate.Sample{There: most, Here: most}, api.One}, // the product has more than 64 bits, the rate has not
		{rate.Sample{There: -1, Here: 0}, rate.Sample{There: most - 1, Here: most}, api.One},
		{rate.Sample{There: -1, Here: -1}, rate.Sample{There: most, Here: most}, 0}, // 2^63
		{rate.Sample{There: -1, Here: 0}, rate.Sample{There: most, Here: most}, 0},
		{rate.Sample{There: 0, Here: -1}, rate.Sample{There: most, Here: most}, 0},
		{rate.Sample{There: least, Here: least}, rate.Sample{There: most, Here: most}, 0},
		{rate.Sample{There: least, Here: 0}, rate.Sample{There: 0, Here: most}, 0},
		{rate.Sample{There: least, Here: 0}, rate.Sample{There: -1, Here: most}, api.One},
		{rate.Sample{There: 0, Here: least}, rate.Sample{There: most, Here: 0}, 0},
		{rate.Sample{There: 0, Here: least}, rate.Sample{There: most, Here: -1}, api.One},
		{rate.Sample{There: least, Here: 0}, rate.Sample{There: 2, Here: 2}, 0}, // gone round it is below 0
		{rate.Sample{There: 0, Here: least}, rate.Sample{There: 2, Here: 2}, 0},
		{rate.Sample{There: most, Here: most}, rate.Sample{There: least, Here: least}, 0}, // gone round it is 1
		{rate.Sample{There: most, Here: 0}, rate.Sample{There: least, Here: 1}, 0},
		{rate.Sample{There: 0, Here: most}, rate.Sample{There: 1, Here: least}, 0},
		{rate.Sample{There: 2, Here: 2}, rate.Sample{There: least + 1, Here: least + 1}, 0},
		{rate.Sample{}, rate.Sample{There: 1 << 44, Here: 1 << 44}, api.One},
		{rate.Sample{}, rate.Sample{There: 1<<50 + 1<<49>>20, Here: 1 << 50}, api.One}, // half a step above One
		{rate.Sample{}, rate.Sample{There: 1<<50 + 1<<30, Here: 1 << 50}, api.One + 1},
		{rate.Sample{}, rate.Sample{There: 1<<50 - 1, Here: 1 << 50}, api.One - 1},
		{rate.Sample{}, rate.Sample{There: 1<<43 - 1, Here: 1}, api.One + api.MaxTune}, // 2^63 less 2^20
		{rate.Sample{}, rate.Sample{There: 1 << 43, Here: 1}, 0},                       // 2^63
		{rate.Sample{}, rate.Sample{There: 1 << 44, Here: 1}, 0},                       // 2^64
		{rate.Sample{}, rate.Sample{There: 1<<44 + 1, Here: 1}, 0},                     // gone round it is One
		{rate.Sample{}, rate.Sample{There: 1<<44 - 1, Here: 2}, api.One + api.MaxTune}, // 2^63 less 2^19
		{rate.Sample{}, rate.Sample{There: 1 << 44, Here: 2}, 0},
		{rate.Sample{}, rate.Sample{There: most, Here: 1}, 0},
		{rate.Sample{}, rate.Sample{There: most, Here: 1 << 20}, api.One + api.MaxTune},
		{rate.Sample{}, rate.Sample{There: most, Here: 1<<20 - 1}, 0},
	} {
		if x.want == 0 {
			tellsNone(t, x.a, x.b, api.MaxTune)
			tellsNone(t, x.a, x.b, 0)
			continue
		}
		tells(t, x.a, x.b, api.MaxTune, x.want)
		tells(t, x.a, x.b, 0, api.One)
	}
}

// told is what two samples tell, in numbers of any size.
func told(a, b rate.Sample, most int64) (int64, bool) {
	there := new(big.Int).Sub(big.NewInt(b.There), big.NewInt(a.There))
	here := new(big.Int).Sub(big.NewInt(b.Here), big.NewInt(a.Here))
	if most < 0 || most > api.MaxTune || there.Sign() <= 0 || here.Sign() <= 0 || !there.IsInt64() || !here.IsInt64() {
		return api.One, false
	}
	n := new(big.Int).Mul(there, big.NewInt(api.One))
	n.Div(n, here)
	if !n.IsInt64() {
		return api.One, false
	}
	return min(max(n.Int64(), api.One-most), api.One+most), true
}

// behind is a sample, or what may be one, at some distance behind another one.
func behind(chance *rand.Rand, a rate.Sample) rate.Sample {
	here := chance.Int63() >> chance.Intn(63)
	there := here
	switch chance.Intn(8) {
	case 0:
		there = chance.Int63() >> chance.Intn(63)
	case 1:
		there = -there
	case 2:
		here = -here
	case 3:
		there += int64(chance.Intn(5)) - 2
	default:
		there += here >> 20 * int64(chance.Intn(10001)-5000)
	}
	return rate.Sample{There: a.There + there, Here: a.Here + here} // may go round
}

func TestOfAny(t *testing.T) { // P18.1, P18.3
	chance := rand.New(rand.NewSource(61))
	for range 100000 {
		a := rate.Sample{There: chance.Int63()>>chance.Intn(64) - chance.Int63()>>chance.Intn(64), Here: chance.Int63()>>chance.Intn(64) - chance.Int63()>>chance.Intn(64)}
		b, most := behind(chance, a), chance.Int63n(api.MaxTune+3)-1
		want, wantOk := told(a, b, most)
		if got, ok := rate.Of(a, b, most); got != want || ok != wantOk {
			t.Fatalf("Of(%v, %v, %d) = %d, %v; want %d, %v", a, b, most, got, ok, want, wantOk)
		} else if got < api.One-max(most, 0) || got > api.One+max(most, 0) {
			t.Fatalf("Of(%v, %v, %d) = %d is out of its bounds", a, b, most, got)
		}
	}
}

func TestNew(t *testing.T) { // P18.2: most 0, MaxTune, and one outside each; many 1 and 9, and outside
	for _, most := range []int64{0, 1, 100, api.MaxTune - 1, api.MaxTune} {
		for many := 1; many <= 9; many++ {
			e := made(t, most, many)
			has(t, e, api.One, 0)
			adds(t, e, 5, 5, false)
			has(t, e, api.One, 0)
		}
		for _, many := range []int{0, -1, -9, 10, 11, 16, math.MaxInt, math.MinInt, 1 << 32, 1<<32 + 3} {
			if e, errno := rate.New(most, many); e != nil || errno != api.ErrRange {
				t.Errorf("New(%d, %d) = %v, %d", most, many, e, errno)
			}
		}
	}
	for _, most := range []int64{-1, -2, -api.MaxTune, api.MaxTune + 1, api.One, math.MaxInt64, math.MinInt64, 1 << 32, 1<<32 + 5} {
		for _, many := range []int{0, 1, 3, 9, 10} {
			if e, errno := rate.New(most, many); e != nil || errno != api.ErrRange {
				t.Errorf("New(%d, %d) = %v, %d", most, many, e, errno)
			}
		}
	}
}

func TestBounds(t *testing.T) { // P18.2, P18.3: what is kept is held within most
	for _, most := range []int64{0, 1, 100, api.MaxTune} {
		e := made(t, most, 1)
		f := feed(t, e)
		f.off(most)
		has(t, e, api.One+most, 1)
		f.off(most + 1)
		has(t, e, api.One+most, 1)
		f.off(-most)
		has(t, e, api.One-most, 1)
		f.off(-most - 1)
		has(t, e, api.One-most, 1)
		f.off(api.One)
		has(t, e, api.One+most, 1)
		f.off(1 - api.One)
		has(t, e, api.One-most, 1)
		f.off(0)
		has(t, e, api.One, 1)
	}
}

func TestASingleSample(t *testing.T) { // P18.5
	for _, s := range []rate.Sample{{}, {There: 1001, Here: 1000}, {There: -5, Here: 7}, {There: math.MaxInt64, Here: 1}, {There: math.MinInt64, Here: math.MinInt64}} {
		e := made(t, api.MaxTune, 3)
		adds(t, e, s.There, s.Here, false)
		has(t, e, api.One, 0)
	}
}

func TestAdd(t *testing.T) { // P18.2, example 1
	e := made(t, api.MaxTune, 3)
	adds(t, e, 0, 0, false)
	adds(t, e, 1001, 1000, true)
	has(t, e, api.One+1048, 1)
	adds(t, e, 2000, 2000, true) // of that sample, and the one ahead
	if want := int64(api.One - 1049); e.Rate() != want || e.Many() != 2 {
		t.Errorf("rate %d of %d; want %d, the lesser one, of 2", e.Rate(), e.Many(), want)
	}
	adds(t, e, 2500, 2500, true)
	has(t, e, api.One, 3)
}

func TestAddBehindNone(t *testing.T) { // P18.2: a sample that made no rate is the one ahead all the same
	for _, x := range []struct {
		name string
		bad  rate.Sample
	}{
		{"the same", rate.Sample{There: 1000, Here: 1000}},
		{"There the same", rate.Sample{There: 1000, Here: 1400}},
		{"Here the same", rate.Sample{There: 1700, Here: 1000}},
		{"There falls", rate.Sample{There: 300, Here: 1300}},
		{"Here falls", rate.Sample{There: 1900, Here: 200}},
		{"both fall", rate.Sample{There: -4000, Here: -70000}},
		{"no difference", rate.Sample{There: 1001, Here: math.MinInt64}},
		{"no rate", rate.Sample{There: 1 << 60, Here: 1001}},
	} {
		e := made(t, api.MaxTune, 9)
		adds(t, e, 0, 0, false)
		adds(t, e, 1000, 1000, true)
		has(t, e, api.One, 1)
		adds(t, e, x.bad.There, x.bad.Here, false)
		has(t, e, api.One, 1)
		adds(t, e, x.bad.There+1001, x.bad.Here+1000, true)
		adds(t, e, x.bad.There+2002, x.bad.Here+2000, true)
		if want := int64(api.One + 1048); e.Rate() != want || e.Many() != 3 {
			t.Errorf("%s: rate %d of %d; want %d of 3", x.name, e.Rate(), e.Many(), want)
		}
	}
}

func TestFirstOfNone(t *testing.T) { // P18.2: also where the first one of all made none, and the second
	e := made(t, api.MaxTune, 2)
	adds(t, e, 500, 600, false)
	adds(t, e, 400, 700, false)
	adds(t, e, 300, 800, false)
	has(t, e, api.One, 0)
	adds(t, e, 300+257, 800+256, true)
	has(t, e, api.One+4096, 1)
}

func TestFirstIsNotBehindZero(t *testing.T) { // P18.2: there is no sample ahead at first
	for many := 1; many <= 9; many++ {
		e := made(t, api.MaxTune, many)
		adds(t, e, 257, 256, false)
		has(t, e, api.One, 0)
		adds(t, e, 257+1000, 256+1000, true)
		has(t, e, api.One, 1)
	}
}

func TestMiddle(t *testing.T) { // P18.2: by size; of an even number the lesser of both in the middle
	for _, x := range []struct {
		many int
		offs []int64
		want int64
		kept int
	}{
		{9, []int64{5}, 5, 1},
		{9, []int64{5, 9}, 5, 2},
		{9, []int64{9, 5}, 5, 2},
		{9, []int64{-9, 5}, -9, 2},
		{9, []int64{1, 2, 3}, 2, 3},
		{9, []int64{3, 1, 2}, 2, 3},
		{9, []int64{2, 3, 1}, 2, 3},
		{9, []int64{3, 2, 1}, 2, 3},
		{9, []int64{7, 7, 1}, 7, 3},
		{9, []int64{4, 1, 3, 2}, 2, 4},
		{9, []int64{-4, -1, -3, -2}, -3, 4},
		{9, []int64{5, 1, 4, 2, 3}, 3, 5},
		{9, []int64{6, 5, 1, 4, 2, 3}, 3, 6},
		{9, []int64{8, 7, 6, 5, 4, 3, 2, 1}, 4, 8},
		{9, []int64{9, 8, 7, 6, 5, 4, 3, 2, 1}, 5, 9},
		{9, []int64{10, 9, 8, 7, 6, 5, 4, 3, 2, 1}, 5, 9}, // 10 is not kept
		{9, []int64{1, 2, 3, 4, 5, 6, 7, 8, 9, 10, 11}, 7, 9},
		{3, []int64{1, 2, 3, 4}, 3, 3},
		{3, []int64{4, 3, 2, 1}, 2, 3},
		{3, []int64{9, 9, 9, 1, 2, 3}, 2, 3},
		{3, []int64{50, 40, 1, 30, 2}, 2, 3},
		{2, []int64{5, 9, 7}, 7, 2},
		{2, []int64{5, 9, 7, 1}, 1, 2},
		{4, []int64{1, 9, 3, 7, 5}, 5, 4},
		{1, []int64{5, 9, 7}, 7, 1},
		{1, []int64{5, 9, 7, -7}, -7, 1},
	} {
		e := made(t, api.MaxTune, x.many)
		feed(t, e).off(x.offs...)
		has(t, e, api.One+x.want, x.kept)
		has(t, e, api.One+x.want, x.kept)
	}
}

func TestAskedBetween(t *testing.T) { // P18.2: asking does not change which one is the oldest
	e := made(t, api.MaxTune, 3)
	f := feed(t, e)
	for i, x := range []struct{ off, want int64 }{{9, 9}, {5, 5}, {1, 5}, {8, 5}, {2, 2}, {3, 3}, {-4, 2}, {10, 3}, {11, 10}} {
		f.off(x.off)
		has(t, e, api.One+x.want, min(i+1, 3))
	}
}

func TestFarOff(t *testing.T) { // P18.5: one that is far off is not the middle one of three
	for place := range 3 {
		for _, far := range []int64{api.MaxTune, -api.MaxTune, api.One, 1 - api.One} {
			offs := []int64{10, 12}
			offs = slices.Insert(offs, place, far)
			e := made(t, api.MaxTune, 3)
			feed(t, e).off(offs...)
			if got := e.Rate() - api.One; got != 10 && got != 12 {
				t.Errorf("of %v it is %d", offs, got)
			}
		}
	}
}

func TestReset(t *testing.T) { // P18.2: as at first
	for _, offs := range [][]int64{{}, {5}, {5, 9}, {5, 9, 7}, {5, 9, 7, 1, 3}} {
		e := made(t, 100, 3)
		f := feed(t, e)
		f.off(offs...)
		e.Reset()
		has(t, e, api.One, 0)
		adds(t, e, f.now.There+5000, f.now.Here+4000, false) // there is no sample ahead
		has(t, e, api.One, 0)
		e.Reset()
		e.Reset()
		f = feed(t, e)
		f.off(-200, 200) // most is as it was
		has(t, e, api.One-100, 2)
		f.off(3, 60, 70) // so is many
		has(t, e, api.One+60, 3)
	}
}

func TestResetOften(t *testing.T) { // P18.2: nothing is left of rates that were kept ahead
	e := made(t, 100, 2)
	for _, off := range []int64{200, 100, -200, 5, -5, 0, 3} {
		feed(t, e).off(off)
		has(t, e, api.One+min(max(off, -100), 100), 1)
		e.Reset()
		has(t, e, api.One, 0)
	}
}

func TestNil(t *testing.T) { // P18.2
	var e *rate.Estimator
	for range 2 {
		adds(t, e, 0, 0, false)
		adds(t, e, 1001, 1000, false)
		has(t, e, api.One, 0)
		e.Reset()
	}
}

func TestAsItIs(t *testing.T) { // P18.4: samples of a clock that goes just as the count make One, of one that goes n ticks in d they tell n to d
	for _, x := range []struct{ n, d, want int64 }{
		{1, 1, api.One},
		{1000, 1000, api.One},
		{257, 256, api.One + 4096},
		{255, 256, api.One - 4096},
		{1001, 1000, api.One + 1048},
		{999, 1000, api.One - 1049},
		{1<<20 + 1, 1 << 20, api.One + 1},
		{1<<20 - 1, 1 << 20, api.One - 1},
	} {
		for many := 1; many <= 9; many++ {
			e := made(t, api.MaxTune, many)
			turns := int64(1)
			at := rate.Sample{There: -70, Here: 9}
			adds(t, e, at.There, at.Here, false)
			for i := range 20 {
				turns = turns*7%1000 + 1
				at.There += turns * x.n
				at.Here += turns * x.d
				adds(t, e, at.There, at.Here, true)
				has(t, e, x.want, min(i+1, many))
			}
		}
	}
}

func TestAnyCalls(t *testing.T) { // P18.2, P18.3: held against all rates that there were
	chance := rand.New(rand.NewSource(62))
	for range 3000 {
		most, many := chance.Int63n(api.MaxTune+1), 1+chance.Intn(9)
		e := made(t, most, many)
		var all []int64
		var ahead *rate.Sample
		for range 40 {
			if chance.Intn(30) == 0 {
				e.Reset()
				all, ahead = nil, nil
			} else {
				at := rate.Sample{There: chance.Int63(), Here: chance.Int63()}
				if ahead != nil {
					at = behind(chance, *ahead)
				}
				want := false
				if ahead != nil {
					var n int64
					if n, want = told(*ahead, at, most); want {
						all = append(all, n)
					}
				}
				adds(t, e, at.There, at.Here, want)
				ahead = &at
			}
			newest := slices.Sorted(slices.Values(all[max(len(all)-many, 0):]))
			want := int64(api.One)
			if len(newest) > 0 {
				want = newest[(len(newest)+1)/2-1]
			}
			if e.Rate() != want || e.Many() != len(newest) {
				t.Fatalf("rate %d of %d; want %d of %d of the newest of %v", e.Rate(), e.Many(), want, many, all)
			}
			if e.Rate() < api.One-most || e.Rate() > api.One+most {
				t.Fatalf("rate %d is out of its bounds, %d", e.Rate(), most)
			}
		}
	}
}

func TestApart(t *testing.T) { // P5: each has its own
	one, two := made(t, 100, 3), made(t, 4096, 1)
	a, b := feed(t, one), feed(t, two)
	a.off(200, 200)
	has(t, two, api.One, 0)
	b.off(200, 300)
	has(t, one, api.One+100, 2)
	has(t, two, api.One+300, 1)
	one.Reset()
	has(t, two, api.One+300, 1)
}
