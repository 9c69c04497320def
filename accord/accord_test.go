package accord_test

import (
	"math"
	"math/big"
	"math/rand"
	"testing"

	"bellbuoy/accord"
	"bellbuoy/api"
)

const (
	mostStart = 1 << 50
	mostBits  = 1 << 40
)

// config is one of that Beat and Tune.
func config(nominal, drift, tune int64) accord.Config {
	return accord.Config{Beat: api.Beat{Nominal: nominal, Drift: drift}, Tune: tune}
}

// rights and wrongs are configs that can be, and that can't.
var rights = []accord.Config{
	config(100, 1, 0),
	config(100, 1, 1),
	config(100, 0, api.MaxTune-1),
	config(100, 99, api.MaxTune),
	config(1, 0, 0),
	config(1, 0, api.MaxTune),
	config(api.MaxInc, 0, 0),
	config(api.MaxInc, api.MaxInc-1, api.MaxTune),
}

var wrongs = []accord.Config{
	{},
	config(100, 1, -1),
	config(100, 1, api.MaxTune+1),
	config(100, 1, -api.MaxTune),
	config(100, 1, 1<<32),
	config(100, 1, math.MaxInt64),
	config(100, 1, math.MinInt64),
	config(100, 100, 0),
	config(100, -1, 0),
	config(0, 0, 0),
	config(-5, 1, 0),
	config(api.MaxInc+1, 1, 0),
	config(1<<32+100, 1, 0),
	config(math.MaxInt64, math.MaxInt64-1, math.MaxInt64),
	config(math.MinInt64, math.MinInt64, math.MinInt64),
}

// slope and bound are as chapter 19 says them, in numbers of any size.
func slope(c accord.Config) *big.Int {
	n := new(big.Int).Mul(big.NewInt(c.Beat.Nominal+c.Beat.Drift), big.NewInt(c.Tune))
	n.Add(n, big.NewInt(api.One-1)) // up
	n.Div(n, big.NewInt(api.One))
	return n.Add(n, big.NewInt(2*c.Beat.Drift))
}

func bound(c accord.Config, bits int64) *big.Int {
	n := new(big.Int).Mul(slope(c), big.NewInt(bits))
	return n.Add(n, big.NewInt(4))
}

func TestRight(t *testing.T) { // P19.1
	for _, c := range rights {
		if !accord.Right(c) {
			t.Errorf("%v can't be", c)
		}
	}
	for _, c := range wrongs {
		if accord.Right(c) {
			t.Errorf("%v can be", c)
		}
	}
}

func TestSlope(t *testing.T) { // P19.1, example 1
	for _, c := range []struct {
		config accord.Config
		want   int64
	}{
		{config(100, 1, 0), 2},
		{config(100, 0, 0), 0},
		{config(1, 0, 0), 0},
		{config(1, 0, 1), 1},      // rounded up
		{config(100, 0, 1), 1},    // rounded up
		{config(100, 1, 1), 3},    // rounded up
		{config(256, 0, 4096), 1}, // nothing is left
		{config(255, 1, 4096), 3}, // nothing is left
		{config(255, 0, 4096), 1},
		{config(257, 0, 4096), 2},
		{config(256, 1, 4096), 4},
		{config(511, 1, 4096), 4}, // nothing is left
		{config(512, 1, 4096), 5},
		{config(api.MaxInc, 0, 1), 1}, // nothing is left
		{config(api.MaxInc, 0, 4096), 4096},
		{config(api.MaxInc-1, 0, 4096), 4096},
		{config(api.MaxInc-1, 1, 4096), 4098}, // nothing is left
		{config(api.MaxInc, 1, 1), 4},
		{config(api.MaxInc, api.MaxInc-1, 0), 2 * (api.MaxInc - 1)},
		{config(api.MaxInc, api.MaxInc-1, 4096), 2*(api.MaxInc-1) + 8192},
	} {
		if got := accord.Slope(c.config); got != c.want {
			t.Errorf("Slope(%v) = %d; want %d", c.config, got, c.want)
		}
	}
	for _, c := range wrongs {
		if got := accord.Slope(c); got != 0 {
			t.Errorf("Slope(%v) = %d", c, got)
		}
	}
}

// bounds fails unless that is answered.
func bounds(t *testing.T, c accord.Config, bits int64) {
	t.Helper()
	got, ok := accord.Bound(c, bits)
	want := bound(c, bits)
	if !want.IsInt64() || got != want.Int64() || !ok {
		t.Errorf("Bound(%v, %d) = %d, %v; want %d", c, bits, got, ok, want)
	}
}

func TestBound(t *testing.T) { // P19.1
	for _, c := range rights {
		for _, bits := range []int64{0, 1, 2, 10, 255, 1 << 20, 1<<32 + 1, mostBits - 1, mostBits} {
			bounds(t, c, bits)
		}
		if got, ok := accord.Bound(c, 0); got != 4 || !ok {
			t.Errorf("Bound(%v, 0) = %d, %v", c, got, ok)
		}
		for _, bits := range []int64{-1, -10, mostBits + 1, 1 << 41, 1 << 62, math.MaxInt64, math.MinInt64, -mostBits} {
			if got, ok := accord.Bound(c, bits); got != 0 || ok {
				t.Errorf("Bound(%v, %d) = %d, %v", c, bits, got, ok)
			}
		}
	}
	for _, c := range wrongs {
		for _, bits := range []int64{0, 1, 10, mostBits, -1, mostBits + 1, math.MinInt64} {
			if got, ok := accord.Bound(c, bits); got != 0 || ok {
				t.Errorf("Bound(%v, %d) = %d, %v", c, bits, got, ok)
			}
		}
	}
}

func TestBoundOfTheGreatest(t *testing.T) { // P19.1: no Bound is greater than that one, which is a number of 64 bits still
	c := config(api.MaxInc, api.MaxInc-1, api.MaxTune)
	if got, ok := accord.Bound(c, mostBits); got != mostBits*(2*(api.MaxInc-1)+8192)+4 || !ok {
		t.Errorf("Bound(%v, %d) = %d, %v", c, int64(mostBits), got, ok)
	}
}

func TestAnyBound(t *testing.T) { // P19.1
	chance := rand.New(rand.NewSource(51))
	for range 20000 {
		c := anyConfig(chance)
		if got, want := accord.Slope(c), slope(c); got != want.Int64() {
			t.Fatalf("Slope(%v) = %d; want %d", c, got, want)
		}
		bounds(t, c, chance.Int63n(mostBits+1)>>chance.Intn(41))
	}
}

// anyConfig is one that can be.
func anyConfig(chance *rand.Rand) accord.Config {
	nominal := 1 + chance.Int63n(api.MaxInc)>>chance.Intn(20)
	return config(nominal, chance.Int63n(nominal)>>chance.Intn(20), chance.Int63n(api.MaxTune+1)>>chance.Intn(13))
}

// made is a pair that must be.
func made(t *testing.T, c accord.Config, start int64) *accord.Pair {
	t.Helper()
	p, errno := accord.New(c, start)
	if p == nil || errno != api.OK {
		t.Fatalf("New(%v, %d) = %v, %d", c, start, p, errno)
	}
	return p
}

// shows fails unless a pair answers that.
func shows(t *testing.T, p *accord.Pair, master, slave int64, settled bool, gap int64) {
	t.Helper()
	if p.Master() != master || p.Slave() != slave || p.Settled() != settled || p.Gap() != gap {
		t.Errorf("master %d, slave %d, settled %v, gap %d; want %d, %d, %v, %d", p.Master(), p.Slave(), p.Settled(), p.Gap(), master, slave, settled, gap)
	}
}

// steps, captures and applies fail unless that is answered.
func steps(t *testing.T, p *accord.Pair, master, slave int64, want api.Errno) {
	t.Helper()
	if errno := p.Step(master, slave); errno != want {
		t.Errorf("Step(%d, %d) = %d; want %d", master, slave, errno, want)
	}
}

func captures(t *testing.T, p *accord.Pair) {
	t.Helper()
	if !p.Capture() {
		t.Error("Capture() = false")
	}
}

func applies(t *testing.T, p *accord.Pair, rate int64, want api.Errno) {
	t.Helper()
	if errno := p.Apply(rate); errno != want {
		t.Errorf("Apply(%d) = %d; want %d", rate, errno, want)
	}
}

func TestNew(t *testing.T) { // P19.2
	for _, c := range rights {
		for _, start := range []int64{0, 1, 5, 1<<32 + 7, mostStart - 1, mostStart} {
			shows(t, made(t, c, start), 0, start, false, 0)
		}
		for _, start := range []int64{-1, -5, mostStart + 1, api.MaxTime, api.MaxTime + 1, -mostStart, math.MaxInt64, math.MinInt64} {
			if p, errno := accord.New(c, start); p != nil || errno != api.ErrRange {
				t.Errorf("New(%v, %d) = %v, %d", c, start, p, errno)
			}
		}
	}
	for _, c := range wrongs {
		for _, start := range []int64{0, 5, mostStart, -1, mostStart + 1} {
			if p, errno := accord.New(c, start); p != nil || errno != api.ErrRange {
				t.Errorf("New(%v, %d) = %v, %d", c, start, p, errno)
			}
		}
	}
}

func TestNil(t *testing.T) { // P19.3
	var p *accord.Pair
	for _, n := range []int64{0, 1, -1, 100, api.One, api.MaxInc + 1, math.MaxInt64, math.MinInt64} { // ahead of any other error
		steps(t, p, n, 1, api.ErrNone)
		steps(t, p, 1, n, api.ErrNone)
		applies(t, p, n, api.ErrNone)
	}
	if p.Capture() {
		t.Error("Capture() of a nil one")
	}
	shows(t, p, 0, 0, false, 0)
}

func TestOfNothing(t *testing.T) { // P1: one that was not made by New
	p := new(accord.Pair)
	for range 3 {
		p.Step(5, 5)
		p.Step(-1, 5)
		p.Apply(api.One)
		p.Capture()
		p.Apply(api.One)
		p.Settled()
		if p.Master() < 0 || p.Slave() < 0 || p.Gap() < 0 {
			t.Error("below 0")
		}
	}
}

func TestStep(t *testing.T) { // P19.2: each counts its own, whatever a bit of its Beat has
	p := made(t, config(100, 1, 0), 7)
	master, slave := int64(0), int64(7)
	for _, ticks := range [][2]int64{{100, 100}, {99, 101}, {0, 0}, {0, 1}, {1, 0}, {api.MaxInc, 5}, {5, api.MaxInc}, {3, 4}} {
		steps(t, p, ticks[0], ticks[1], api.OK)
		master += ticks[0]
		slave += ticks[1]
		shows(t, p, master, slave, false, 0)
	}
}

// refused are ticks of which the first, or the second, or both are none that a bit has.
var refused = [][2]int64{
	{-1, 5}, {api.MaxInc + 1, 5}, {math.MinInt64, 5}, {math.MaxInt64, 0}, {1<<32 + 5, 5},
	{5, -1}, {5, api.MaxInc + 1}, {5, math.MinInt64}, {0, math.MaxInt64}, {5, 1<<32 + 5},
	{-1, -1}, {-1, api.MaxInc + 1}, {api.MaxInc + 1, -1},
}

func TestStepRefused(t *testing.T) { // P19.2: nothing is counted then, of the master's ticks neither
	p := made(t, config(100, 1, 0), 7)
	steps(t, p, 100, 101, api.OK)
	captures(t, p)
	applies(t, p, api.One, api.OK)
	for _, ticks := range refused {
		steps(t, p, ticks[0], ticks[1], api.ErrRange)
		shows(t, p, 100, 108, false, 0) // no bit went by, nor was one told behind what was applied
	}
	steps(t, p, 10, 20, api.OK)
	shows(t, p, 110, 120, true, 1)
	for _, ticks := range refused {
		steps(t, p, ticks[0], ticks[1], api.ErrRange)
		shows(t, p, 110, 120, true, 1)
	}
	captures(t, p) // what is noted is of what was counted
	applies(t, p, api.One, api.OK)
	steps(t, p, 15, 15, api.OK)
	shows(t, p, 125, 125, true, 1)
}

func TestCaptureAtFirst(t *testing.T) { // P19.2: ahead of any Step
	p := made(t, config(100, 1, 0), 0)
	captures(t, p)
	shows(t, p, 0, 0, false, 0)
	applies(t, p, api.One, api.OK)
	shows(t, p, 0, 0, false, 0)
	steps(t, p, 100, 101, api.OK)
	shows(t, p, 100, 101, true, 1)
}

func TestCaptureAtFirstOfOneAhead(t *testing.T) { // P19.2, P19.3: it waits from the first bit on
	p := made(t, config(100, 1, 0), 250)
	captures(t, p)
	applies(t, p, api.One, api.OK)
	shows(t, p, 0, 250, false, 0)
	steps(t, p, 100, 100, api.OK)
	shows(t, p, 100, 250, false, 1)
	steps(t, p, 100, 100, api.OK)
	shows(t, p, 200, 250, false, 2)
	steps(t, p, 50, 50, api.OK) // just what it told
	shows(t, p, 250, 250, true, 3)
	steps(t, p, 1, 1, api.OK)
	shows(t, p, 251, 251, true, 4)
}

func TestCaptureTellsNothing(t *testing.T) { // P19.2
	p := made(t, config(100, 1, 16), 30)
	for range 4 {
		steps(t, p, 100, 100, api.OK)
		master, slave := p.Master(), p.Slave()
		captures(t, p)
		captures(t, p)
		shows(t, p, master, slave, false, 0)
	}
}

func TestCaptureTwice(t *testing.T) { // P19.2: the later one is what is noted
	p := made(t, config(100, 50, 0), 0)
	captures(t, p)
	steps(t, p, 100, 80, api.OK)
	captures(t, p)
	steps(t, p, 100, 100, api.OK)
	applies(t, p, api.One, api.OK)
	shows(t, p, 200, 180, false, 1)
	applies(t, p, api.One, api.ErrState)
	steps(t, p, 100, 100, api.OK)
	shows(t, p, 300, 300, true, 2)
}

func TestApplyOfNothing(t *testing.T) { // P19.2: ahead of what is wrong with the rate
	p := made(t, config(100, 1, 16), 7)
	rates := []int64{api.One, api.One + 16, api.One - 16, api.One + 17, 0, -1, math.MaxInt64, math.MinInt64}
	none := func() {
		t.Helper()
		for _, rate := range rates {
			master, slave, settled, gap := p.Master(), p.Slave(), p.Settled(), p.Gap()
			applies(t, p, rate, api.ErrState)
			shows(t, p, master, slave, settled, gap)
		}
	}
	none()
	steps(t, p, 100, 100, api.OK)
	none()
	captures(t, p)
	applies(t, p, api.One, api.OK)
	none() // a second time behind one Capture
	steps(t, p, 100, 100, api.OK)
	none()
	steps(t, p, 100, 100, api.OK)
	captures(t, p)
	applies(t, p, api.One, api.OK)
	none()
	shows(t, p, 300, 300, true, 0)
}

func TestApplyRates(t *testing.T) { // P19.2: from One less Tune to One and Tune
	for _, tune := range []int64{0, 1, 16, api.MaxTune - 1, api.MaxTune} {
		for _, off := range []int64{0, 1, -1, tune, -tune, tune - 1, 1 - tune, tune + 1, -tune - 1, 2*tune + 5, -2*tune - 5, api.MaxTune + 1, -api.MaxTune - 1, -api.One, -2 * api.One, math.MinInt64, math.MaxInt64 - api.One} {
			p := made(t, config(1<<19, 1, tune), 0)
			steps(t, p, 1<<19, 1<<19, api.OK)
			captures(t, p)
			steps(t, p, 1<<19, 1<<19, api.OK)
			rate := api.One + off
			if off < -tune || off > tune {
				applies(t, p, rate, api.ErrRange)
				shows(t, p, api.One, api.One, false, 0)
				applies(t, p, api.One, api.OK) // what is noted is so still
				steps(t, p, api.MaxInc, api.MaxInc, api.OK)
				shows(t, p, 2*api.One, 2*api.One, true, 2)
				continue
			}
			applies(t, p, rate, api.OK)
			shows(t, p, api.One, api.One, false, 1)
			steps(t, p, api.MaxInc, api.MaxInc, api.OK)
			if off >= 0 {
				shows(t, p, 2*api.One, 2*api.One+off, true, 2)
			} else if p.Slave() != 2*api.One+off {
				t.Errorf("slave %d by %d; want %d", p.Slave(), rate, 2*api.One+off)
			}
		}
	}
}

func TestApplyRateStays(t *testing.T) { // P19.2: till the next one; from where it goes on rounds anew
	p := made(t, config(100, 1, api.MaxTune), 0)
	captures(t, p)
	applies(t, p, api.One+api.MaxTune, api.OK)
	for bit := int64(1); bit <= 4; bit++ {
		steps(t, p, 100, 100, api.OK)
		shows(t, p, 100*bit, 100*bit*257/256, true, bit)
	}
	captures(t, p) // at 400, and 401
	steps(t, p, 100, 100, api.OK)
	shows(t, p, 500, 501, true, 5)
	applies(t, p, api.One-api.MaxTune, api.OK)
	steps(t, p, 100, 100, api.OK) // from 500: 99 more, and what is left
	shows(t, p, 600, 599, true, 2)
	steps(t, p, 156, 156, api.OK)
	shows(t, p, 756, 755, true, 3)
}

func TestApplyFromLess(t *testing.T) { // P19.2, P19.3: the slave was ahead, and waits
	p := made(t, config(100, 1, 0), 220)
	steps(t, p, 100, 101, api.OK)
	captures(t, p) // 100, and 321
	steps(t, p, 100, 101, api.OK)
	shows(t, p, 200, 422, false, 0)
	applies(t, p, api.One, api.OK) // it has 201
	shows(t, p, 200, 422, false, 1)
	steps(t, p, 100, 100, api.OK)
	shows(t, p, 300, 422, false, 2)
	steps(t, p, 100, 100, api.OK)
	shows(t, p, 400, 422, false, 3)
	steps(t, p, 20, 20, api.OK)
	shows(t, p, 420, 422, false, 4) // a tick is missing
	steps(t, p, 100, 100, api.OK)
	shows(t, p, 520, 521, true, 5)
}

func TestApplyFromMore(t *testing.T) { // P19.2, P19.3: the slave was behind
	p := made(t, config(100, 50, 0), 0)
	for range 3 {
		steps(t, p, 150, 60, api.OK)
	}
	captures(t, p) // 450, and 180
	steps(t, p, 100, 100, api.OK)
	shows(t, p, 550, 280, false, 0)
	applies(t, p, api.One, api.OK) // it has 550, and did not tell that yet
	shows(t, p, 550, 280, false, 1)
	steps(t, p, 0, 0, api.OK)
	shows(t, p, 550, 550, true, 2)
	steps(t, p, 100, 99, api.OK)
	shows(t, p, 650, 649, true, 3)
}

func TestApplyThatMovesNothing(t *testing.T) { // P19.3: it follows from the next bit on
	p := made(t, config(100, 1, 0), 0)
	steps(t, p, 100, 100, api.OK)
	captures(t, p)
	applies(t, p, api.One, api.OK)
	shows(t, p, 100, 100, false, 0)
	steps(t, p, 0, 0, api.OK)
	shows(t, p, 100, 100, true, 1)
}

func TestSettledStays(t *testing.T) { // P19.3: once it was so, though it has to wait again
	p := made(t, config(100, 50, 0), 0)
	captures(t, p)
	applies(t, p, api.One, api.OK)
	steps(t, p, 100, 150, api.OK)
	shows(t, p, 100, 150, true, 1)
	steps(t, p, 100, 150, api.OK)
	captures(t, p)                 // 200, and 300
	applies(t, p, api.One, api.OK) // it has 200
	shows(t, p, 200, 300, true, 0)
	steps(t, p, 60, 60, api.OK)
	shows(t, p, 260, 300, true, 1)
	steps(t, p, 60, 60, api.OK)
	shows(t, p, 320, 320, true, 2)
}

func TestSettledIsNotOfATimeAhead(t *testing.T) { // P19.3: what was told ahead of what is applied counts nothing, nor does what is told as it waits for another one
	p := made(t, config(100, 50, 0), 1000)
	for range 3 {
		steps(t, p, 100, 100, api.OK)
		shows(t, p, p.Master(), p.Slave(), false, 0)
	}
	for range 4 {
		captures(t, p)
		applies(t, p, api.One, api.OK)
		steps(t, p, 100, 100, api.OK)
		shows(t, p, p.Master(), 1300, false, 1)
	}
}

func TestGap(t *testing.T) { // P19.3: since the bit at which it was noted, not since it was applied
	p := made(t, config(100, 1, 16), 0)
	gaps := func(want int64) {
		t.Helper()
		if p.Gap() != want {
			t.Errorf("Gap() = %d; want %d", p.Gap(), want)
		}
	}
	bits := func(many int) {
		t.Helper()
		for range many {
			steps(t, p, 100, 100, api.OK)
		}
	}
	bits(5)
	gaps(0)
	captures(t, p)
	gaps(0)
	bits(3)
	gaps(0) // it is not applied yet
	applies(t, p, api.One+16, api.OK)
	gaps(3)
	bits(4)
	gaps(7)
	captures(t, p)
	gaps(7)
	bits(2)
	gaps(9)
	applies(t, p, api.One+17, api.ErrRange)
	gaps(9)
	applies(t, p, api.One-16, api.OK)
	gaps(2)
	applies(t, p, api.One, api.ErrState)
	bits(1)
	gaps(3)
	captures(t, p)
	applies(t, p, api.One, api.OK)
	gaps(0)
	bits(1000)
	gaps(1000)
}

func TestApart(t *testing.T) { // P5: each has its own
	one, two := made(t, config(100, 1, 0), 5), made(t, config(100, 1, 0), 9)
	captures(t, one)
	applies(t, two, api.One, api.ErrState)
	steps(t, one, 100, 100, api.OK)
	shows(t, two, 0, 9, false, 0)
	applies(t, one, api.One, api.OK)
	steps(t, two, 1, 1, api.OK)
	shows(t, one, 100, 105, false, 1)
	shows(t, two, 1, 10, false, 0)
}
