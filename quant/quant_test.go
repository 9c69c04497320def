package quant_test

import (
	"math"
	"math/big"
	"math/rand"
	"testing"

	"bellbuoy/api"
	"bellbuoy/quant"
)

const (
	longest = 1 << 40
	latest  = 1 << 60
)

// lengths and times are the bounds of those that can be, and others within.
var (
	lengths = []int64{1, 2, 3, 7, 10, 255, 256, 257, 1 << 20, 999999937, longest - 1, longest}
	times   = []int64{-latest, 1 - latest, -1 << 41, -longest, -257, -256, -10, -1, 0, 1, 9, 10, 255, 256, 2560, longest, 1<<48 - 1, 1 << 48, 1<<59 + 7, latest - 1, latest}
)

// noLengths and noTimes are such as can't be.
var (
	noLengths = []int64{0, -1, -10, -longest, longest + 1, longest + 2, 1 << 41, 1 << 60, math.MaxInt64, math.MinInt64}
	noTimes   = []int64{-latest - 1, -latest - 2, latest + 1, latest + 2, 1 << 61, -1 << 61, math.MaxInt64, math.MaxInt64 - 5, math.MinInt64, math.MinInt64 + 5}
	noSlots   = []int{-1, -2, -255, api.LastSlot + 1, api.LastSlot + 2, 511, 1 << 32, 1<<32 + 2, math.MaxInt, math.MinInt}
)

func TestSlot(t *testing.T) { // P22.1
	for _, c := range []struct {
		deadline, epoch, length int64
		want                    int
	}{
		{125, 100, 10, 2},
		{100, 100, 10, 0}, // at the epoch
		{99, 100, 10, 0},  // one ahead of it
		{90, 100, 10, 0},
		{-latest, 100, 10, 0},
		{109, 100, 10, 0}, // at a slot's end
		{110, 100, 10, 1}, // at one's beginning
		{119, 100, 10, 1},
		{120, 100, 10, 2},
		{2649, 100, 10, 254},
		{2650, 100, 10, 255}, // the last slot
		{2659, 100, 10, 255}, // its end
		{2660, 100, 10, 255}, // behind it
		{2661, 100, 10, 255},
		{latest, 100, 10, 255},
		{-95, -100, 10, 0},
		{-90, -100, 10, 1},
		{-101, -100, 10, 0},
		{5, -100, 10, 10},
		{7, 0, 1, 7},
		{255, 0, 1, 255},
		{256, 0, 1, 255},
		{latest, -latest, longest, 255},
		{-latest, latest, 1, 0},
		{latest, latest, 1, 0},
		{latest, latest - 1, 1, 1},
		{-latest + 5, -latest, 5, 1},
		{3*longest - 1, 0, longest, 2},
		{3 * longest, 0, longest, 3},
	} {
		if got, ok := quant.Slot(c.deadline, c.epoch, c.length); got != c.want || !ok {
			t.Errorf("Slot(%d, %d, %d) = %d, %v; want %d", c.deadline, c.epoch, c.length, got, ok, c.want)
		}
	}
}

func TestStart(t *testing.T) { // P22.1
	for _, c := range []struct {
		slot          int
		epoch, length int64
		want          int64
	}{
		{2, 100, 10, 120},
		{0, 100, 10, 100},
		{255, 100, 10, 2650},
		{1, -100, 10, -90},
		{10, -100, 10, 0},
		{255, -latest, longest, 255*longest - latest},
		{0, latest, longest, latest},
		{0, -latest, 1, -latest},
		{255, latest - 255, 1, latest},
		{255, latest - 255*longest, longest, latest},
	} {
		if got, ok := quant.Start(c.slot, c.epoch, c.length); got != c.want || !ok {
			t.Errorf("Start(%d, %d, %d) = %d, %v; want %d", c.slot, c.epoch, c.length, got, ok, c.want)
		}
	}
}

func TestFar(t *testing.T) { // P22.1
	for _, c := range []struct {
		deadline, epoch, length int64
		want                    bool
	}{
		{2660, 100, 10, true},
		{2661, 100, 10, true},
		{2659, 100, 10, false},
		{100, 100, 10, false},
		{-latest, 100, 10, false},
		{latest, 100, 10, true},
		{256, 0, 1, true},
		{255, 0, 1, false},
		{0, -256, 1, true},
		{-1, -256, 1, false},
		{latest, latest, 1, false},
		{latest, latest - 256, 1, true},
		{latest, latest - 255, 1, false},
		{latest, -latest, longest, true},
		{-latest, latest, 1, false},
		{256 * longest, 0, longest, true},
		{256*longest - 1, 0, longest, false},
		{latest, latest - 256*longest, longest, true},
		{latest, latest - 256*longest + 1, longest, false},
	} {
		if got := quant.Far(c.deadline, c.epoch, c.length); got != c.want {
			t.Errorf("Far(%d, %d, %d) = %v", c.deadline, c.epoch, c.length, got)
		}
	}
}

func TestEpochAndNext(t *testing.T) { // P22.2
	for _, c := range []struct{ now, length, want int64 }{
		{0, 10, 0},
		{1, 10, 0},
		{9, 10, 0},
		{10, 10, 10},
		{11, 10, 10},
		{125, 10, 120},
		{-1, 10, -10},
		{-9, 10, -10},
		{-10, 10, -10},
		{-11, 10, -20},
		{-20, 10, -20},
		{7, 1, 7},
		{-7, 1, -7},
		{longest - 1, longest, 0},
		{longest, longest, longest},
		{-1, longest, -longest},
		{-longest, longest, -longest},
		{-longest - 1, longest, -2 * longest},
		{latest - 1, 1 << 20, latest - 1<<20},
		{latest - 1, longest, latest - longest},
		{-latest, 1, -latest},
		{-latest, longest, -latest},
		{1 - latest, longest, -latest},
	} {
		if got, ok := quant.Epoch(c.now, c.length); got != c.want || !ok {
			t.Errorf("Epoch(%d, %d) = %d, %v; want %d", c.now, c.length, got, ok, c.want)
		}
		if got, ok := quant.Next(c.now, c.length); got != c.want+c.length || !ok {
			t.Errorf("Next(%d, %d) = %d, %v; want %d", c.now, c.length, got, ok, c.want+c.length)
		}
	}
}

func TestPastTheTimes(t *testing.T) { // P22.1, P22.2: it is what is handed in that must be a time; what is told of it may lie behind those
	for _, c := range []struct {
		slot          int
		epoch, length int64
		want          int64
	}{
		{1, latest, 1, latest + 1},
		{255, latest, longest, latest + 255*longest},
	} {
		if got, ok := quant.Start(c.slot, c.epoch, c.length); got != c.want || !ok {
			t.Errorf("Start(%d, %d, %d) = %d, %v; want %d", c.slot, c.epoch, c.length, got, ok, c.want)
		}
	}
	for _, c := range []struct{ now, length, epoch int64 }{
		{latest, 1, latest},
		{latest, longest, latest},
		{latest, 3, latest - 1},
		{-latest, 3, -latest - 2},
	} {
		if got, ok := quant.Epoch(c.now, c.length); got != c.epoch || !ok {
			t.Errorf("Epoch(%d, %d) = %d, %v; want %d", c.now, c.length, got, ok, c.epoch)
		}
		if got, ok := quant.Next(c.now, c.length); got != c.epoch+c.length || !ok {
			t.Errorf("Next(%d, %d) = %d, %v; want %d", c.now, c.length, got, ok, c.epoch+c.length)
		}
	}
}

// nothing fails unless there is nothing of a deadline, an epoch, and a length, one of which can't be.
func nothing(t *testing.T, deadline, epoch, length int64) {
	t.Helper()
	if got, ok := quant.Slot(deadline, epoch, length); got != 0 || ok {
		t.Errorf("Slot(%d, %d, %d) = %d, %v", deadline, epoch, length, got, ok)
	}
	if quant.Far(deadline, epoch, length) {
		t.Errorf("Far(%d, %d, %d)", deadline, epoch, length)
	}
}

// never fails unless there is nothing of an epoch, or a time, and a length, one of which can't be.
func never(t *testing.T, time, length int64) {
	t.Helper()
	for _, slot := range append(noSlots, 0, 1, 128, 255) {
		if got, ok := quant.Start(slot, time, length); got != 0 || ok {
			t.Errorf("Start(%d, %d, %d) = %d, %v", slot, time, length, got, ok)
		}
	}
	if got, ok := quant.Epoch(time, length); got != 0 || ok {
		t.Errorf("Epoch(%d, %d) = %d, %v", time, length, got, ok)
	}
	if got, ok := quant.Next(time, length); got != 0 || ok {
		t.Errorf("Next(%d, %d) = %d, %v", time, length, got, ok)
	}
}

func TestNothing(t *testing.T) { // P22.1, P22.2: a slot, a length, or a time that can't be, alone and with others
	for _, length := range noLengths {
		for _, a := range append(noTimes, times...) {
			never(t, a, length)
			for _, b := range append(noTimes, times...) {
				nothing(t, a, b, length)
			}
		}
	}
	for _, length := range append(lengths, 100) {
		for _, a := range noTimes {
			never(t, a, length)
			for _, b := range noTimes {
				nothing(t, a, b, length)
			}
			for _, b := range times {
				nothing(t, a, b, length)
				nothing(t, b, a, length)
			}
		}
		for _, epoch := range times {
			for _, slot := range noSlots {
				if got, ok := quant.Start(slot, epoch, length); got != 0 || ok {
					t.Errorf("Start(%d, %d, %d) = %d, %v", slot, epoch, length, got, ok)
				}
			}
		}
	}
}

// floor is a divided by b, rounded down, whole however great.
func floor(a *big.Int, b int64) *big.Int {
	quotient, rest := new(big.Int).QuoRem(a, big.NewInt(b), new(big.Int))
	if rest.Sign() < 0 {
		quotient.Sub(quotient, big.NewInt(1))
	}
	return quotient
}

// held fails unless all is as chapter 22 says it, of numbers that can be.
func held(t *testing.T, deadline, epoch, length int64) {
	t.Helper()
	at := floor(new(big.Int).Sub(big.NewInt(deadline), big.NewInt(epoch)), length)
	far := at.Cmp(big.NewInt(api.LastSlot)) > 0
	slot := 0
	switch {
	case far:
		slot = api.LastSlot
	case at.Sign() > 0:
		slot = int(at.Int64())
	}
	if got, ok := quant.Slot(deadline, epoch, length); got != slot || !ok {
		t.Fatalf("Slot(%d, %d, %d) = %d, %v; want %d", deadline, epoch, length, got, ok, slot)
	}
	if got := quant.Far(deadline, epoch, length); got != far {
		t.Fatalf("Far(%d, %d, %d) = %v", deadline, epoch, length, got)
	}
	start := new(big.Int).Mul(big.NewInt(int64(slot)), big.NewInt(length))
	start.Add(start, big.NewInt(epoch))
	if got, ok := quant.Start(slot, epoch, length); start.Cmp(big.NewInt(got)) != 0 || !ok {
		t.Fatalf("Start(%d, %d, %d) = %d, %v; want %v", slot, epoch, length, got, ok, start)
	}
	began := floor(big.NewInt(deadline), length)
	began.Mul(began, big.NewInt(length))
	if got, ok := quant.Epoch(deadline, length); began.Cmp(big.NewInt(got)) != 0 || !ok {
		t.Fatalf("Epoch(%d, %d) = %d, %v; want %v", deadline, length, got, ok, began)
	}
	next := began.Add(began, big.NewInt(length))
	if got, ok := quant.Next(deadline, length); next.Cmp(big.NewInt(got)) != 0 || !ok {
		t.Fatalf("Next(%d, %d) = %d, %v; want %v", deadline, length, got, ok, next)
	}
}

func TestAtTheBounds(t *testing.T) { // P22.1, P22.2
	for _, length := range lengths {
		for _, epoch := range times {
			for _, deadline := range times {
				held(t, deadline, epoch, length)
			}
			for slot := int64(-2); slot <= 258; slot++ {
				for off := int64(-1); off <= 1; off++ {
					if deadline := epoch + slot*length + off; deadline >= -latest && deadline <= latest {
						held(t, deadline, epoch, length)
					}
				}
			}
		}
	}
}

func TestShortSlots(t *testing.T) { // P22.1, P22.2: one by one
	for length := int64(1); length <= 6; length++ {
		for _, epoch := range []int64{-1000, -7, 0, 1, 12} {
			slot, left := 0, length
			for deadline := epoch - 20; deadline < epoch+258*length; deadline++ {
				held(t, deadline, epoch, length)
				if deadline < epoch {
					continue
				}
				if got, _ := quant.Slot(deadline, epoch, length); got != min(slot, api.LastSlot) || quant.Far(deadline, epoch, length) != (slot > api.LastSlot) {
					t.Fatalf("Slot(%d, %d, %d) = %d; want %d", deadline, epoch, length, got, slot)
				}
				if left--; left == 0 {
					slot, left = slot+1, length
				}
			}
		}
	}
}

// anyTime is one that can be, of any size; near another one now and then.
func anyTime(chance *rand.Rand, near, length int64) int64 {
	far := chance.Int63n(latest+1) >> chance.Intn(60)
	switch chance.Intn(4) {
	case 0:
		return far
	case 1:
		return -far
	}
	return max(-latest, min(latest, near+chance.Int63n(300*length)-20*length))
}

// anyLength is one that can be, of any size.
func anyLength(chance *rand.Rand) int64 { return 1 + chance.Int63n(longest)>>chance.Intn(41) }

func TestAnyNumbers(t *testing.T) { // P22.1, P22.2
	chance := rand.New(rand.NewSource(71))
	for range 50000 {
		length := anyLength(chance)
		epoch := anyTime(chance, 0, length)
		held(t, anyTime(chance, epoch, length), epoch, length)
	}
}
