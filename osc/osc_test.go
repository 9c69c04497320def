package osc

import (
	"math"
	"math/big"
	"math/rand"
	"testing"

	"bellbuoy/api"
)

func made(t *testing.T, b api.Beat) *Osc {
	t.Helper()
	o, errno := New(b)
	if o == nil || errno != api.OK {
		t.Fatalf("New(%v) = %v, %d", b, o, errno)
	}
	return o
}

// counts fails unless a bit of so many ticks is counted.
func counts(t *testing.T, o *Osc, ticks int64) {
	t.Helper()
	if errno := o.Step(ticks); errno != api.OK {
		t.Fatalf("Step(%d) = %d at %d", ticks, errno, o.Count())
	}
}

// refuses fails unless a bit of so many ticks is refused with that error, and changes nothing.
func refuses(t *testing.T, o *Osc, ticks int64, want api.Errno) {
	t.Helper()
	count, steady := o.Count(), o.Steady()
	if errno := o.Step(ticks); errno != want {
		t.Errorf("Step(%d) = %d at %d; want %d", ticks, errno, count, want)
	}
	has(t, o, count, steady)
}

// has fails unless an oscillator has counted so many, and is steady, or not.
func has(t *testing.T, o *Osc, count int64, steady bool) {
	t.Helper()
	if o.Count() != count || o.Steady() != steady {
		t.Fatalf("it counted %d, steady %v; want %d, %v", o.Count(), o.Steady(), count, steady)
	}
}

// late is an oscillator that has counted so many, more than a test can have it count.
func late(t *testing.T, b api.Beat, count int64) *Osc {
	t.Helper()
	o := made(t, b)
	o.count = count
	return o
}

func TestRight(t *testing.T) { // P16.1
	for _, c := range []struct {
		nominal, drift int64
		want           bool
	}{
		{1, 0, true},
		{1, 1, false},
		{1, -1, false},
		{2, 0, true},
		{2, 1, true},
		{2, 2, false},
		{100, 0, true},
		{100, 2, true},
		{100, 99, true},
		{100, 100, false},
		{100, 101, false},
		{100, -1, false},
		{100, math.MaxInt64, false},
		{100, math.MinInt64, false},
		{api.MaxInc, 0, true},
		{api.MaxInc, api.MaxInc - 1, true},
		{api.MaxInc, api.MaxInc, false},
		{api.MaxInc + 1, 0, false},
		{api.MaxInc + 1, 5, false},
		{0, 0, false},
		{0, -1, false},
		{-1, 0, false},
		{-1, -2, false},
		{-100, 2, false},
		{1<<32 + 100, 2, false},
		{100, 1<<32 + 2, false},
		{math.MaxInt64, 0, false},
		{math.MaxInt64, math.MaxInt64 - 1, false},
		{math.MinInt64, math.MinInt64, false},
	} {
		b := api.Beat{Nominal: c.nominal, Drift: c.drift}
		if Right(b) != c.want {
			t.Errorf("Right(%v) = %v", b, Right(b))
		}
		o, errno := New(b)
		if c.want {
			if o == nil || errno != api.OK {
				t.Fatalf("New(%v) = %v, %d", b, o, errno)
			}
			has(t, o, 0, true)
		} else if o != nil || errno != api.ErrRange {
			t.Errorf("New(%v) = %v, %d", b, o, errno)
		}
	}
}

func TestNil(t *testing.T) { // P16.1
	var o *Osc
	for _, ticks := range []int64{0, 1, 100, api.MaxInc, api.MaxInc + 1, -1, math.MinInt64, math.MaxInt64} { // ahead of any other error
		if errno := o.Step(ticks); errno != api.ErrNone {
			t.Errorf("Step(%d) = %d of a nil one", ticks, errno)
		}
	}
	has(t, o, 0, false)
}

func TestItsOwn(t *testing.T) { // chapter 16, Ways: what it may be is its own
	o := made(t, api.Beat{Nominal: 100, Drift: 2})
	if o.Nominal != 100 || o.Drift != 2 {
		t.Errorf("it is of %d, and %d", o.Nominal, o.Drift)
	}
}

func TestStep(t *testing.T) { // P16.1
	o := made(t, api.Beat{Nominal: 100, Drift: 2})
	sum := int64(0)
	for _, ticks := range []int64{101, 0, 1, 98, 102, api.MaxInc, api.MaxInc - 1, 7, 0} {
		counts(t, o, ticks)
		sum += ticks
		if o.Count() != sum {
			t.Fatalf("it counted %d; want %d", o.Count(), sum)
		}
	}
}

func TestStepRefused(t *testing.T) { // P16.1
	for _, ahead := range []int64{0, 100, 7} {
		o := made(t, api.Beat{Nominal: 100, Drift: 2})
		counts(t, o, ahead)
		for _, ticks := range []int64{-1, -2, -100, math.MinInt64, api.MaxInc + 1, 1<<32 + 100, api.MaxTime, api.MaxTime + 1, math.MaxInt64} {
			refuses(t, o, ticks, api.ErrRange)
		}
		has(t, o, ahead, ahead == 100)
	}
}

func TestStepPastTheEnd(t *testing.T) { // P16.1: up to MaxTime, and one past it
	b := api.Beat{Nominal: 2, Drift: 1}
	for _, left := range []int64{0, 1, 2, 100, api.MaxInc - 1} {
		o := late(t, b, api.MaxTime-left)
		refuses(t, o, left+1, api.ErrOver)
		refuses(t, o, api.MaxInc, api.ErrOver)
		refuses(t, o, api.MaxInc+1, api.ErrRange) // that one is named first
		refuses(t, o, -1, api.ErrRange)
		has(t, o, api.MaxTime-left, true) // what was refused was no bit that was counted
		counts(t, o, left)
		has(t, o, api.MaxTime, left == 1 || left == 2)
		refuses(t, o, 1, api.ErrOver)
		counts(t, o, 0)
		has(t, o, api.MaxTime, false)
	}
	o := late(t, b, api.MaxTime-api.MaxInc)
	counts(t, o, api.MaxInc)
	has(t, o, api.MaxTime, false)
}

func TestSteady(t *testing.T) { // P16.1
	for _, b := range []api.Beat{{Nominal: 100, Drift: 2}, {Nominal: 100}, {Nominal: 1}, {Nominal: 2, Drift: 1}, {Nominal: 100, Drift: 99}, {Nominal: 1 << 19, Drift: 5}} {
		least, most := b.Nominal-b.Drift, b.Nominal+b.Drift
		for _, ticks := range []int64{0, least - 1, least, least + 1, b.Nominal, most - 1, most, most + 1, most + 100, api.MaxInc} {
			o := made(t, b)
			counts(t, o, b.Nominal)
			has(t, o, b.Nominal, true)
			counts(t, o, ticks)
			want := least <= ticks && ticks <= most
			has(t, o, b.Nominal+ticks, want)
			other := max(2*b.Nominal-ticks, 0)
			counts(t, o, other) // what one bit had is not made good by another one
			has(t, o, b.Nominal+ticks+other, want)
			counts(t, o, b.Nominal)
			has(t, o, 2*b.Nominal+ticks+other, want)
		}
	}
}

func TestSteadyAtTheGreatest(t *testing.T) { // P16.1: a bit may have more ticks, as of its Drift, than a bit has at most
	o := made(t, api.Beat{Nominal: api.MaxInc, Drift: 3})
	for _, ticks := range []int64{api.MaxInc, api.MaxInc - 3} {
		counts(t, o, ticks)
		if !o.Steady() {
			t.Fatalf("not steady behind a bit of %d ticks", ticks)
		}
	}
	refuses(t, o, api.MaxInc+1, api.ErrRange)
	counts(t, o, api.MaxInc-4)
	has(t, o, 3*api.MaxInc-7, false)
}

func TestSteadyBounds(t *testing.T) { // P16.5
	chance := rand.New(rand.NewSource(41))
	for range 500 {
		b := api.Beat{Nominal: 1 + chance.Int63n(api.MaxInc/2)}
		b.Drift = chance.Int63n(b.Nominal)
		o, sum := made(t, b), int64(0)
		for bits := int64(1); bits <= 50; bits++ {
			ticks := b.Nominal - b.Drift + chance.Int63n(2*b.Drift+1)
			if chance.Intn(2) == 0 { // nearest to the bounds
				ticks = b.Nominal - b.Drift
			} else if chance.Intn(2) == 0 {
				ticks = b.Nominal + b.Drift
			}
			counts(t, o, ticks)
			sum += ticks
			has(t, o, sum, true)
			if o.Count() < bits*(b.Nominal-b.Drift) || o.Count() > bits*(b.Nominal+b.Drift) {
				t.Fatalf("%v counted %d in %d bits", b, o.Count(), bits)
			}
		}
	}
}

func TestAnySteps(t *testing.T) { // P16.1, P16.5: a model that keeps all bits
	chance := rand.New(rand.NewSource(42))
	for range 300 {
		b := api.Beat{Nominal: 1 + chance.Int63n(20)}
		b.Drift = chance.Int63n(b.Nominal)
		o := made(t, b)
		sum, steady := int64(0), true
		for range 30 {
			ticks := b.Nominal - b.Drift - 1 + chance.Int63n(2*b.Drift+3)
			switch chance.Intn(8) {
			case 0:
				refuses(t, o, -1-chance.Int63n(1000), api.ErrRange)
				continue
			case 1:
				refuses(t, o, api.MaxInc+1+chance.Int63n(1000), api.ErrRange)
				continue
			case 2:
				ticks = b.Nominal
			}
			counts(t, o, ticks)
			sum += ticks
			steady = steady && b.Nominal-b.Drift <= ticks && ticks <= b.Nominal+b.Drift
			has(t, o, sum, steady)
		}
	}
}

func TestApart(t *testing.T) { // P5: each has its own
	b := api.Beat{Nominal: 10, Drift: 1}
	one, two := made(t, b), made(t, b)
	counts(t, one, 5)
	has(t, two, 0, true)
	counts(t, two, 11)
	has(t, one, 5, false)
	has(t, two, 11, true)
}

// edges are numbers near where something ends.
func edges() []int64 {
	list := []int64{math.MinInt64, math.MinInt64 + 1, math.MaxInt64 - 1, math.MaxInt64, api.MaxTime - 1, api.MaxTime, api.MaxTime + 1}
	for n := int64(-20); n <= 600; n++ {
		list = append(list, n)
	}
	for width := 3; width <= 62; width++ {
		for off := int64(-2); off <= 2; off++ {
			list = append(list, 1<<width+off, -(1<<width + off), math.MaxInt64-1<<width+off)
		}
	}
	return list
}

// modulo is a count modulo 2^width.
func modulo(count int64, width int) uint64 {
	turn := new(big.Int).Lsh(big.NewInt(1), uint(width))
	return new(big.Int).Mod(big.NewInt(count), turn).Uint64()
}

// noWidths are widths that can't be.
var noWidths = []int{0, -1, -2, -62, -64, 63, 64, 65, 126, 128, 1 << 32, 1<<32 + 8, math.MinInt, math.MaxInt}

func TestStamp(t *testing.T) { // P16.2, example 1
	for _, count := range edges() {
		for width := 1; width <= 62; width++ {
			if got := Stamp(count, width); got != modulo(count, width) {
				t.Fatalf("Stamp(%d, %d) = %d; want %d", count, width, got, modulo(count, width))
			}
		}
		for _, width := range noWidths {
			if got := Stamp(count, width); got != 0 {
				t.Fatalf("Stamp(%d, %d) = %d", count, width, got)
			}
		}
	}
	for _, c := range []struct {
		count int64
		width int
		want  uint64
	}{
		{300, 8, 44},
		{250, 8, 250},
		{255, 8, 255},
		{256, 8, 0},
		{-1, 8, 255},
		{-256, 8, 0},
		{-257, 8, 255},
		{5, 1, 1},
		{4, 1, 0},
		{-1, 62, 1<<62 - 1},
		{1<<62 - 1, 62, 1<<62 - 1},
		{1 << 62, 62, 0},
		{math.MaxInt64, 62, 1<<62 - 1},
		{math.MinInt64, 62, 0},
	} {
		if got := Stamp(c.count, c.width); got != c.want {
			t.Errorf("Stamp(%d, %d) = %d; want %d", c.count, c.width, got, c.want)
		}
	}
}

// expands fails unless a stamp is expanded to that; none is -1.
func expands(t *testing.T, now int64, stamp uint64, width int, want int64) {
	t.Helper()
	got, ok := Expand(now, stamp, width)
	if ok != (want >= 0) || got != max(want, 0) {
		t.Fatalf("Expand(%d, %d, %d) = %d, %v; want %d", now, stamp, width, got, ok, want)
	}
}

// latest is what a stamp is expanded to: each number up to now is tried.
func latest(now int64, stamp uint64, width int) int64 {
	for n := now; n >= 0; n-- {
		if modulo(n, width) == stamp {
			return n
		}
	}
	return -1
}

func TestExpandTried(t *testing.T) { // P16.2: small numbers, one by one
	for width := 1; width <= 6; width++ {
		for now := int64(0); now <= 150; now++ {
			for stamp := uint64(0); stamp <= 70; stamp++ {
				expands(t, now, stamp, width, latest(now, stamp, width))
			}
		}
	}
}

func TestExpand(t *testing.T) { // P16.2, example 1
	for _, c := range []struct {
		now   int64
		stamp uint64
		width int
		want  int64
	}{
		{300, 250, 8, 250},
		{300, 44, 8, 300},
		{300, 45, 8, 45},
		{300, 43, 8, 299},
		{300, 255, 8, 255},
		{300, 256, 8, -1},
		{300, 0, 8, 256},
		{255, 255, 8, 255},
		{254, 255, 8, -1},
		{0, 0, 8, 0},
		{0, 1, 8, -1},
		{0, 255, 8, -1},
		{0, 256, 8, -1},
		{0, 0, 1, 0},
		{0, 1, 1, -1},
		{1, 0, 1, 0},
		{1, 1, 1, 1},
		{1, 2, 1, -1},
		{0, 0, 62, 0},
		{0, 1<<62 - 1, 62, -1},
		{1<<62 - 1, 1<<62 - 1, 62, 1<<62 - 1},
		{1<<62 - 2, 1<<62 - 1, 62, -1},
		{1 << 62, 0, 62, 1 << 62},
		{1 << 62, 1<<62 - 1, 62, 1<<62 - 1},
		{1 << 62, 1, 62, 1},
		{math.MaxInt64, 1<<62 - 1, 62, math.MaxInt64},
		{math.MaxInt64, 0, 62, 1 << 62},
		{math.MaxInt64, 1 << 62, 62, -1},
		{math.MaxInt64, 1, 1, math.MaxInt64},
		{math.MaxInt64, 0, 1, math.MaxInt64 - 1},
		{300, math.MaxUint64, 62, -1},
		{300, 1 << 63, 62, -1},
		{300, 1<<63 + 44, 8, -1},
		{300, 1<<32 + 44, 8, -1},
		{-1, 0, 8, -1},
		{-1, 255, 8, -1},
		{-256, 0, 8, -1},
		{math.MinInt64, 0, 8, -1},
		{math.MinInt64, 0, 62, -1},
	} {
		expands(t, c.now, c.stamp, c.width, c.want)
	}
}

func TestExpandOfNoWidth(t *testing.T) { // P16.2
	for _, width := range noWidths {
		for _, now := range []int64{0, 1, 300, api.MaxTime, math.MaxInt64, -1, math.MinInt64} {
			for _, stamp := range []uint64{0, 1, 44, 1<<62 - 1, 1 << 63, math.MaxUint64} {
				expands(t, now, stamp, width, -1)
			}
		}
	}
}

func TestThereAndBack(t *testing.T) { // P16.3: up to one less than a whole turn behind now, and no further
	for width := 1; width <= 62; width++ {
		turn := int64(1) << width
		for _, count := range edges() {
			if count < 0 {
				continue
			}
			for _, behind := range []int64{0, 1, turn / 2, turn - 2, turn - 1} {
				if behind < 0 || count > math.MaxInt64-behind {
					continue
				}
				expands(t, count+behind, Stamp(count, width), width, count)
			}
			if count <= math.MaxInt64-turn {
				expands(t, count+turn, Stamp(count, width), width, count+turn)
			}
			if count <= math.MaxInt64-turn-1 {
				expands(t, count+turn+1, Stamp(count, width), width, count+turn)
			}
			if count > 0 && count < turn {
				expands(t, count-1, Stamp(count, width), width, -1)
			}
		}
	}
}

func TestExpanded(t *testing.T) { // P16.4
	chance := rand.New(rand.NewSource(43))
	for range 20000 {
		width := 1 + chance.Intn(62)
		turn := int64(1) << width
		now := chance.Int63() >> chance.Intn(63)
		stamp := uint64(chance.Int63n(turn))
		got, ok := Expand(now, stamp, width)
		if !ok {
			if got != 0 || int64(stamp) <= now {
				t.Fatalf("Expand(%d, %d, %d) = %d, false", now, stamp, width, got)
			}
			continue
		}
		if Stamp(got, width) != stamp || got > now || now-got >= turn || got < 0 {
			t.Fatalf("Expand(%d, %d, %d) = %d", now, stamp, width, got)
		}
	}
}
