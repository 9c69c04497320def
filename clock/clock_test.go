package clock_test

import (
	"math"
	"testing"

	"bellbuoy/api"
	"bellbuoy/clock"
)

const (
	slowest = api.One - api.MaxTune
	fastest = api.One + api.MaxTune
)

// looks fails unless a clock has that at a count.
func looks(t *testing.T, c *clock.Clock, count, want int64) {
	t.Helper()
	if got, ok := c.Look(count); got != want || !ok {
		t.Errorf("Look(%d) = %d, %v; want %d", count, got, ok, want)
	}
}

// lacks fails unless a clock has nothing at those counts, and tells there what it told last.
func lacks(t *testing.T, c *clock.Clock, counts ...int64) {
	t.Helper()
	for _, count := range counts {
		if got, ok := c.Look(count); got != 0 || ok {
			t.Errorf("Look(%d) = %d, %v; want nothing", count, got, ok)
		}
		last := c.Last()
		if got, ok := c.Read(count); got != last || ok || c.Last() != last {
			t.Errorf("Read(%d) = %d, %v, and then Last %d; want %d, false", count, got, ok, c.Last(), last)
		}
	}
}

// tells fails unless a clock tells that at a count.
func tells(t *testing.T, c *clock.Clock, count, want int64) {
	t.Helper()
	if got, ok := c.Read(count); got != want || !ok || c.Last() != want {
		t.Errorf("Read(%d) = %d, %v, and then Last %d; want %d", count, got, ok, c.Last(), want)
	}
}

// shifts and tunes fail unless that is answered.
func shifts(t *testing.T, c *clock.Clock, count, by int64, want api.Errno) {
	t.Helper()
	if errno := c.Shift(count, by); errno != want {
		t.Errorf("Shift(%d, %d) = %d; want %d", count, by, errno, want)
	}
}

func tunes(t *testing.T, c *clock.Clock, count, rate int64, want api.Errno) {
	t.Helper()
	if errno := c.Tune(count, rate); errno != want {
		t.Errorf("Tune(%d, %d) = %d; want %d", count, rate, errno, want)
	}
}

// stays fails if what is done changes what a clock has, its rate, or what it told last.
func stays(t *testing.T, c *clock.Clock, do func()) {
	t.Helper()
	counts := []int64{0, 1, -1, 5, 255, 256, 257, -1000, 1 << 20, 1<<20 + 1, -1 << 40, api.MaxTime, -api.MaxTime, math.MaxInt64, math.MinInt64}
	type had struct {
		value int64
		ok    bool
	}
	var ahead []had
	for _, count := range counts {
		value, ok := c.Look(count)
		ahead = append(ahead, had{value, ok})
	}
	rate, last := c.Rate(), c.Last()
	do()
	for i, count := range counts {
		if value, ok := c.Look(count); (had{value, ok}) != ahead[i] {
			t.Errorf("Look(%d) = %d, %v; it was %v ahead", count, value, ok, ahead[i])
		}
	}
	if c.Rate() != rate || c.Last() != last {
		t.Errorf("rate %d, last %d; they were %d and %d ahead", c.Rate(), c.Last(), rate, last)
	}
}

// tuned is a new clock of that rate.
func tuned(t *testing.T, rate int64) *clock.Clock {
	t.Helper()
	c := clock.New()
	tunes(t, c, 0, rate, api.OK)
	return c
}

func TestNew(t *testing.T) { // P17.1, and the words of chapter 17: it goes as the count
	c := clock.New()
	if c == nil || c.Rate() != api.One || c.Last() != 0 {
		t.Fatalf("New() = %v", c)
	}
	for _, count := range []int64{0, 1, -1, 5, 300, -300, 1 << 40, -1 << 40, api.MaxTime - 1, 1 - api.MaxTime} {
		looks(t, c, count, count)
	}
	if c.Last() != 0 {
		t.Errorf("Last() = %d of a clock that told nothing", c.Last())
	}
}

func TestRead(t *testing.T) { // P17.1, example 1
	c := clock.New()
	tells(t, c, 5, 5)
	tells(t, c, 3, 5)
	looks(t, c, 3, 3)
	tells(t, c, 5, 5)
	tells(t, c, -7, 5)
	tells(t, c, 6, 6)
	tells(t, c, 5, 6)
	tells(t, c, 1<<40, 1<<40)
	tells(t, c, 7, 1<<40)
	tells(t, c, api.MaxTime, api.MaxTime)
	tells(t, c, 0, api.MaxTime)
	if c.Rate() != api.One {
		t.Errorf("Rate() = %d", c.Rate())
	}
}

func TestReadBelowZero(t *testing.T) { // P17.1: what was told last is 0 at first
	for _, count := range []int64{-1, -5, -api.MaxTime, 0} {
		c := clock.New()
		tells(t, c, count, 0)
		looks(t, c, count, count)
		tells(t, c, 1, 1)
	}
}

func TestLookTellsNothing(t *testing.T) { // P17.1
	c := clock.New()
	tells(t, c, 10, 10)
	stays(t, c, func() {
		looks(t, c, 100, 100)
		looks(t, c, 2, 2)
		looks(t, c, api.MaxTime, api.MaxTime)
	})
	tells(t, c, 11, 11)
}

func TestReadMovesNothing(t *testing.T) { // P17.1
	for _, rate := range []int64{api.One, slowest, fastest, api.One + 1} {
		c := tuned(t, rate)
		tells(t, c, 1<<20, rate)
		tells(t, c, 1<<20-100, rate)
		stays(t, c, func() {
			tells(t, c, 1000, rate)
			tells(t, c, -1000, rate)
			lacks(t, c, math.MaxInt64)
		})
	}
}

func TestEnds(t *testing.T) { // P17.1: MaxTime, -MaxTime, and one past each
	c := clock.New()
	for _, count := range []int64{api.MaxTime, api.MaxTime - 1, -api.MaxTime, 1 - api.MaxTime} {
		looks(t, c, count, count)
	}
	past := []int64{api.MaxTime + 1, api.MaxTime + 2, -api.MaxTime - 1, -api.MaxTime - 2, 2 * api.MaxTime, -2 * api.MaxTime, math.MaxInt64, math.MaxInt64 - 1, math.MinInt64, math.MinInt64 + 1}
	lacks(t, c, past...)
	tells(t, c, 12, 12)
	lacks(t, c, past...)
	tells(t, c, api.MaxTime, api.MaxTime)
	lacks(t, c, past...)
}

func TestEndsOfOtherRates(t *testing.T) { // P17.1: MaxTime and -MaxTime, whatever the count there
	fast := tuned(t, fastest)                // 257 for 256
	last := int64(api.MaxTime/257*256 + 241) // MaxTime is 241 more than a multiple of 257
	looks(t, fast, last-1, api.MaxTime-1)
	looks(t, fast, last, api.MaxTime)
	lacks(t, fast, last+1, api.MaxTime, math.MaxInt64)
	looks(t, fast, 2-last, 1-api.MaxTime)
	looks(t, fast, 1-last, -api.MaxTime) // rounded down
	lacks(t, fast, -last, -api.MaxTime, math.MinInt64)

	slow := tuned(t, slowest)       // 255 for 256
	last = api.MaxTime/255*256 + 17 // MaxTime is 16 more than a multiple of 255
	looks(t, slow, api.MaxTime, api.MaxTime/256*255)
	looks(t, slow, last-1, api.MaxTime-1)
	looks(t, slow, last, api.MaxTime) // rounded down from above MaxTime
	lacks(t, slow, last+1, math.MaxInt64)
	looks(t, slow, 2-last, 1-api.MaxTime)
	looks(t, slow, 1-last, -api.MaxTime)
	lacks(t, slow, -last, math.MinInt64)
}

func TestRoundedDown(t *testing.T) { // the words of chapter 17
	for _, x := range []struct{ rate, count, want int64 }{
		{fastest, 1, 1},
		{fastest, 255, 255},
		{fastest, 256, 257},
		{fastest, 257, 258},
		{fastest, 511, 512},
		{fastest, 512, 514},
		{fastest, -1, -2},
		{fastest, -255, -256},
		{fastest, -256, -257},
		{fastest, -257, -259},
		{slowest, 1, 0},
		{slowest, 2, 1},
		{slowest, 256, 255},
		{slowest, 257, 255},
		{slowest, -1, -1},
		{slowest, -255, -255},
		{slowest, -256, -255},
		{slowest, -257, -256},
		{api.One + 1, 1<<20 - 1, 1<<20 - 1},
		{api.One + 1, 1 << 20, 1<<20 + 1},
		{api.One + 1, -1, -2},
		{api.One + 1, -1 << 20, -1<<20 - 1},
		{api.One - 1, 1, 0},
		{api.One - 1, 1 << 20, 1<<20 - 1},
		{api.One - 1, 1<<20 + 1, 1<<20 - 1},
		{api.One - 1, -1, -1},
		{api.One + 1, 1<<50 + 1, 1<<50 + 1<<30 + 1}, // the product has more than 64 bits
		{api.One - 1, 1<<50 + 1, 1<<50 - 1<<30},
		{api.One + 1, -1<<50 - 1, -1<<50 - 1<<30 - 2},
		{fastest, 1 << 58, 1<<58 + 1<<50},
		{slowest, -1<<58 - 1, -1<<58 + 1<<50 - 1},
	} {
		looks(t, tuned(t, x.rate), x.count, x.want)
	}
}

func TestShift(t *testing.T) { // P17.2
	c := clock.New()
	shifts(t, c, 10, 7, api.OK)
	looks(t, c, 10, 17)
	looks(t, c, 11, 18)
	looks(t, c, 9, 16)
	looks(t, c, -10, -3)
	if c.Last() != 0 || c.Rate() != api.One {
		t.Errorf("last %d, rate %d", c.Last(), c.Rate())
	}
	tells(t, c, 10, 17)
	shifts(t, c, 12, -10, api.OK)
	looks(t, c, 12, 9)
	tells(t, c, 12, 17)
	tells(t, c, 20, 17)
	tells(t, c, 21, 18)
	shifts(t, c, 5, 1, api.OK) // at a count ahead of the one that it goes on from
	looks(t, c, 5, 3)
	looks(t, c, 21, 19)
	shifts(t, c, 30, 0, api.OK)
	looks(t, c, 30, 28)
	looks(t, c, 0, -2)
}

func TestShiftKeepsTheRate(t *testing.T) { // P17.2
	for _, rate := range []int64{slowest, fastest, api.One - 1} {
		c := tuned(t, rate)
		shifts(t, c, 1<<20, 5, api.OK)
		if c.Rate() != rate {
			t.Errorf("Rate() = %d; want %d", c.Rate(), rate)
		}
		looks(t, c, 1<<20, rate+5)
		looks(t, c, 1<<21, 2*rate+5)
		looks(t, c, 0, 5)
	}
}

func TestShiftByNothing(t *testing.T) { // P17.2: it goes on from there, and what was left of rounding is gone
	c := tuned(t, fastest)
	looks(t, c, 256, 257)
	shifts(t, c, 255, 0, api.OK)
	looks(t, c, 255, 255)
	looks(t, c, 256, 256)
	looks(t, c, 255+256, 255+257)
	looks(t, c, 0, -1)
}

func TestTuneToTheSame(t *testing.T) { // P17.2: it goes on from there as well
	c := tuned(t, slowest)
	looks(t, c, 2, 1)
	tunes(t, c, 1, slowest, api.OK)
	looks(t, c, 1, 0)
	looks(t, c, 2, 0)
	looks(t, c, 257, 255)
	looks(t, c, 0, -1)
}

func TestShiftToTheEnds(t *testing.T) { // P17.2: just MaxTime and -MaxTime, and one past each
	for _, count := range []int64{0, 5, -5, 1 << 40, api.MaxTime, -api.MaxTime, api.MaxTime - 1} {
		c := clock.New()
		tells(t, c, 3, 3)
		stays(t, c, func() {
			for _, by := range []int64{api.MaxTime + 1 - count, api.MaxTime + 2 - count, -api.MaxTime - 1 - count, math.MaxInt64, math.MinInt64, math.MaxInt64 - 1, 4 * api.MaxTime, -4 * api.MaxTime} {
				shifts(t, c, count, by, api.ErrOver)
			}
		})
		shifts(t, c, count, api.MaxTime-count, api.OK)
		looks(t, c, count, api.MaxTime)
		looks(t, c, count-1, api.MaxTime-1)
		lacks(t, c, count+1, count+2)
		shifts(t, c, count, 1, api.ErrOver)
		shifts(t, c, count+1, -1, api.ErrOver) // it has nothing there
		shifts(t, c, count, -2*api.MaxTime, api.OK)
		looks(t, c, count, -api.MaxTime)
		looks(t, c, count+1, 1-api.MaxTime)
		lacks(t, c, count-1, count-2)
		shifts(t, c, count, -1, api.ErrOver)
		shifts(t, c, count-1, 1, api.ErrOver)
		shifts(t, c, count, 0, api.OK)
		looks(t, c, count, -api.MaxTime)
	}
}

func TestShiftWhereItHasNothing(t *testing.T) { // P17.2: though that and by would be within
	c := clock.New()
	tells(t, c, 9, 9)
	stays(t, c, func() {
		for _, count := range []int64{api.MaxTime + 1, -api.MaxTime - 1, 2 * api.MaxTime, math.MaxInt64, math.MinInt64} {
			for _, by := range []int64{0, 1, -1, 5, -api.MaxTime, api.MaxTime, 4 * api.MaxTime, -4 * api.MaxTime, math.MinInt64, math.MaxInt64} {
				shifts(t, c, count, by, api.ErrOver)
			}
		}
	})
}

func TestTune(t *testing.T) { // P17.2
	c := clock.New()
	tunes(t, c, 1000, fastest, api.OK)
	if c.Rate() != fastest || c.Last() != 0 {
		t.Errorf("rate %d, last %d", c.Rate(), c.Last())
	}
	looks(t, c, 1000, 1000)
	looks(t, c, 1256, 1257)
	looks(t, c, 744, 743)
	looks(t, c, 0, -4)
	tunes(t, c, 1256, slowest, api.OK)
	looks(t, c, 1256, 1257)
	looks(t, c, 1512, 1512)
	looks(t, c, 1000, 1002)
	tunes(t, c, 1000, api.One, api.OK) // at a count ahead of the one that it goes on from
	looks(t, c, 1000, 1002)
	looks(t, c, 1512, 1514)
	looks(t, c, 0, 2)
	if c.Rate() != api.One || c.Last() != 0 {
		t.Errorf("rate %d, last %d", c.Rate(), c.Last())
	}
}

func TestTuneKeepsWhatWasTold(t *testing.T) { // P17.2
	c := clock.New()
	tells(t, c, 2560, 2560)
	tunes(t, c, 0, slowest, api.OK)
	looks(t, c, 2560, 2550)
	tells(t, c, 2560, 2560)
	tells(t, c, 2816, 2805)
}

func TestTuneRates(t *testing.T) { // P17.2: One less MaxTune, One and MaxTune, and one outside each
	for _, rate := range []int64{slowest, slowest + 1, api.One - 1, api.One, api.One + 1, fastest - 1, fastest} {
		c := tuned(t, rate)
		if c.Rate() != rate {
			t.Errorf("Rate() = %d; want %d", c.Rate(), rate)
		}
		looks(t, c, 1<<20, rate)
	}
	c := clock.New()
	shifts(t, c, 0, 100, api.OK)
	tells(t, c, 1, 101)
	stays(t, c, func() {
		for _, rate := range []int64{slowest - 1, fastest + 1, 0, 1, -1, api.MaxTune, -api.One, -slowest, 2 * api.One, 1<<32 + api.One, 1<<32 + slowest, math.MaxInt64, math.MinInt64} {
			tunes(t, c, 5, rate, api.ErrRange)
			tunes(t, c, api.MaxTime+1, rate, api.ErrRange) // that one is named first
			tunes(t, c, math.MinInt64, rate, api.ErrRange)
		}
	})
}

func TestTuneWhereItHasNothing(t *testing.T) { // P17.2
	c := tuned(t, api.One+1)
	tells(t, c, 4, 4)
	stays(t, c, func() {
		for _, count := range []int64{api.MaxTime, -api.MaxTime, api.MaxTime + 1, -api.MaxTime - 1, math.MaxInt64, math.MinInt64} {
			for _, rate := range []int64{slowest, api.One, fastest} {
				tunes(t, c, count, rate, api.ErrOver)
			}
		}
	})
	c = clock.New()
	tunes(t, c, api.MaxTime, fastest, api.OK) // it has just that there
	looks(t, c, api.MaxTime, api.MaxTime)
	lacks(t, c, api.MaxTime+1)
	tunes(t, c, api.MaxTime+1, api.One, api.ErrOver)
	looks(t, c, api.MaxTime-256, api.MaxTime-257)
}

func TestOnTheWay(t *testing.T) { // P17.1: it has nothing, if what is on the way is no number of 64 bits
	c := clock.New()
	for at := int64(1); at <= 7; at += 2 { // to a count that is far from what it has there
		shifts(t, c, at*api.MaxTime, -2*api.MaxTime, api.OK)
		looks(t, c, at*api.MaxTime, -api.MaxTime)
	}
	looks(t, c, 7*api.MaxTime+5, 5-api.MaxTime)
	looks(t, c, math.MaxInt64, -1)
	lacks(t, c, math.MinInt64, math.MinInt64+1, -7*api.MaxTime, -2*api.MaxTime, -2*api.MaxTime-1, 0, 7*api.MaxTime-1) // of the first the difference, gone round, is MaxTime
	shifts(t, c, math.MinInt64, 0, api.ErrOver)
	tunes(t, c, math.MinInt64, api.One, api.ErrOver)

	c = clock.New()
	for at := int64(-1); at >= -7; at -= 2 {
		shifts(t, c, at*api.MaxTime, 2*api.MaxTime, api.OK)
		looks(t, c, at*api.MaxTime, api.MaxTime)
	}
	looks(t, c, math.MinInt64, 0)
	lacks(t, c, math.MaxInt64, math.MaxInt64-1, 7*api.MaxTime, api.MaxTime, 0, -7*api.MaxTime+1)
	for _, rate := range []int64{slowest, fastest} { // what the difference grows to, or a sum with it
		tunes(t, c, -7*api.MaxTime, rate, api.OK)
		looks(t, c, -7*api.MaxTime, api.MaxTime)
		lacks(t, c, math.MaxInt64, 0, api.MaxTime-1, 1-6*api.MaxTime)
	}
}

func TestNil(t *testing.T) { // P17.2, ahead of any other error
	var c *clock.Clock
	for _, count := range []int64{0, 5, -5, api.MaxTime, api.MaxTime + 1, math.MaxInt64, math.MinInt64} {
		lacks(t, c, count)
		for _, n := range []int64{0, 1, -1, api.One, fastest + 1, math.MaxInt64, math.MinInt64} {
			shifts(t, c, count, n, api.ErrNone)
			tunes(t, c, count, n, api.ErrNone)
		}
	}
	if c.Rate() != 0 || c.Last() != 0 {
		t.Errorf("rate %d, last %d of a nil one", c.Rate(), c.Last())
	}
}

func TestApart(t *testing.T) { // P5: each has its own
	one, two := clock.New(), clock.New()
	shifts(t, one, 0, 100, api.OK)
	tunes(t, one, 0, fastest, api.OK)
	tells(t, one, 256, 357)
	looks(t, two, 256, 256)
	if two.Rate() != api.One || two.Last() != 0 {
		t.Errorf("rate %d, last %d of another one", two.Rate(), two.Last())
	}
	tells(t, two, 1, 1)
	tells(t, one, 0, 357)
	looks(t, clock.New(), 7, 7)
}
