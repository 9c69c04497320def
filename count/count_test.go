package count

import (
	"math"
	"testing"

	"bellbuoy/api"
)

// all is each of the counts that can be.
func all() []api.Counts {
	var list []api.Counts
	for tx := range 257 {
		for rx := range 256 {
			list = append(list, api.Counts{Tx: tx, Rx: rx, Off: tx == 256})
		}
	}
	return list
}

// wrongs are counts that can't be: each of the three out of its bounds, alone and with others.
func wrongs() []api.Counts {
	list := []api.Counts{
		{Tx: 256},
		{Tx: 256, Rx: 255},
		{Off: true},
		{Rx: 200, Off: true},
		{Tx: 255, Off: true},
		{Tx: 128, Rx: 128, Off: true},
		{Tx: 257, Off: true},
		{Tx: math.MaxInt, Rx: 5, Off: true},
		{Tx: -1, Off: true},
		{Tx: -1, Rx: -1},
		{Tx: 257, Rx: 256, Off: true},
	}
	for _, tx := range []int{-1, -128, 257, 300, 512, math.MaxInt, math.MinInt, math.MaxInt - 7, -1 << 32, 1 << 32, 1<<32 + 130} {
		list = append(list, api.Counts{Tx: tx}, api.Counts{Tx: tx, Rx: 200})
	}
	for _, rx := range []int{-1, -128, 256, 300, 512, math.MaxInt, math.MinInt, math.MaxInt - 7, -1 << 32, 1 << 32, 1<<32 + 130} {
		list = append(list, api.Counts{Rx: rx}, api.Counts{Tx: 200, Rx: rx}, api.Counts{Tx: 256, Rx: rx, Off: true})
	}
	return list
}

// amounts are those by which Rx may grow, or not.
var amounts = []int{math.MinInt, -1 << 32, -256, -255, -8, -1, 0, 1, 2, 8, 9, 100, 127, 128, 254, 255, 256, 257, 1000, 1 << 32, 1<<32 + 1, math.MaxInt - 255, math.MaxInt - 1, math.MaxInt}

func TestRight(t *testing.T) { // P10.1
	for _, c := range all() {
		if !Right(c) {
			t.Fatalf("%v can't be", c)
		}
		c.Off = !c.Off
		if Right(c) {
			t.Fatalf("%v can be", c)
		}
	}
	for _, c := range wrongs() {
		if Right(c) {
			t.Errorf("%v can be", c)
		}
	}
}

func TestModeWrittenOut(t *testing.T) { // P10.1
	for _, c := range []struct {
		c    api.Counts
		want api.Mode
	}{
		{api.Counts{}, api.Active},
		{api.Counts{Tx: 127}, api.Active},
		{api.Counts{Rx: 127}, api.Active},
		{api.Counts{Tx: 127, Rx: 127}, api.Active},
		{api.Counts{Tx: 128}, api.Passive},
		{api.Counts{Rx: 128}, api.Passive},
		{api.Counts{Tx: 127, Rx: 128}, api.Passive},
		{api.Counts{Tx: 128, Rx: 127}, api.Passive},
		{api.Counts{Tx: 255}, api.Passive},
		{api.Counts{Rx: 255}, api.Passive},
		{api.Counts{Tx: 255, Rx: 255}, api.Passive},
		{api.Counts{Tx: 256, Off: true}, api.OffBus},
		{api.Counts{Tx: 256, Rx: 127, Off: true}, api.OffBus},
		{api.Counts{Tx: 256, Rx: 255, Off: true}, api.OffBus},
	} {
		if got := Mode(c.c); got != c.want {
			t.Errorf("Mode(%v) = %d; want %d", c.c, got, c.want)
		}
	}
}

func TestMode(t *testing.T) { // P10.1
	for _, c := range all() {
		want := api.Active
		if c.Tx > 127 || c.Rx > 127 {
			want = api.Passive
		}
		if c.Off {
			want = api.OffBus
		}
		if got := Mode(c); got != want {
			t.Fatalf("Mode(%v) = %d; want %d", c, got, want)
		}
	}
}

func TestTxWrittenOut(t *testing.T) { // P10.2, and the chapter's example
	for _, c := range []struct{ tx, failed, good int }{
		{0, 8, 0},
		{1, 9, 0},
		{2, 10, 1},
		{119, 127, 118},
		{120, 128, 119},
		{124, 132, 123},
		{127, 135, 126},
		{128, 136, 127},
		{129, 137, 128},
		{247, 255, 246},
		{248, 256, 247},
		{249, 256, 248},
		{250, 256, 249},
		{255, 256, 254},
		{256, 256, 256},
	} {
		for _, rx := range []int{0, 1, 127, 128, 255} {
			is := api.Counts{Tx: c.tx, Rx: rx, Off: c.tx == 256}
			if got, want := TxFail(is), (api.Counts{Tx: c.failed, Rx: rx, Off: c.failed == 256}); got != want {
				t.Errorf("TxFail(%v) = %v; want %v", is, got, want)
			}
			if got, want := TxGood(is), (api.Counts{Tx: c.good, Rx: rx, Off: c.tx == 256}); got != want {
				t.Errorf("TxGood(%v) = %v; want %v", is, got, want)
			}
		}
	}
	if got := Mode(TxFail(api.Counts{Tx: 124})); got != api.Passive {
		t.Errorf("124 and one fail: %d", got)
	}
}

func TestRxWrittenOut(t *testing.T) { // P10.2
	for _, c := range []struct{ rx, one, eight, good int }{
		{0, 1, 8, 0},
		{1, 2, 9, 0},
		{2, 3, 10, 1},
		{119, 120, 127, 118},
		{120, 121, 128, 119},
		{121, 122, 129, 120},
		{127, 128, 135, 126},
		{128, 129, 136, 120},
		{129, 130, 137, 120},
		{246, 247, 254, 120},
		{247, 248, 255, 120},
		{248, 249, 255, 120},
		{253, 254, 255, 120},
		{254, 255, 255, 120},
		{255, 255, 255, 120},
	} {
		for _, tx := range []int{0, 1, 127, 128, 255, 256} {
			is := api.Counts{Tx: tx, Rx: c.rx, Off: tx == 256}
			for _, made := range []struct {
				got  api.Counts
				want int
			}{{RxFail(is, 1), c.one}, {RxFail(is, 8), c.eight}, {RxGood(is), c.good}, {RxFail(is, 0), c.rx}, {RxFail(is, -1), c.rx}} {
				if want := (api.Counts{Tx: tx, Rx: made.want, Off: tx == 256}); made.got != want {
					t.Errorf("of %v came %v; want %v", is, made.got, want)
				}
			}
		}
	}
}

func TestTx(t *testing.T) { // P10.2
	for _, c := range all() {
		failed := api.Counts{Tx: c.Tx + 8, Rx: c.Rx}
		if failed.Tx > 255 {
			failed = api.Counts{Tx: 256, Rx: c.Rx, Off: true}
		}
		good := c
		if c.Tx >= 1 && c.Tx <= 255 {
			good.Tx = c.Tx - 1
		}
		if x, y := TxFail(c), TxGood(c); x != failed || y != good {
			t.Fatalf("of %v came %v and %v; want %v and %v", c, x, y, failed, good)
		}
	}
}

func TestRx(t *testing.T) { // P10.2
	for _, c := range all() {
		for _, by := range amounts {
			want := c
			for n := by; n > 0 && want.Rx < 255; n-- {
				want.Rx++
			}
			if got := RxFail(c, by); got != want {
				t.Fatalf("RxFail(%v, %d) = %v; want %v", c, by, got, want)
			}
		}
		want := c
		if c.Rx > 127 {
			want.Rx = 120
		} else if c.Rx != 0 {
			want.Rx = c.Rx - 1
		}
		if got := RxGood(c); got != want {
			t.Fatalf("RxGood(%v) = %v; want %v", c, got, want)
		}
	}
}

func TestCountsThatCanNotBe(t *testing.T) { // each call answers as of zeros
	for _, c := range wrongs() {
		if got := Mode(c); got != api.Active {
			t.Errorf("Mode(%v) = %d", c, got)
		}
		if got := TxFail(c); got != (api.Counts{Tx: 8}) {
			t.Errorf("TxFail(%v) = %v", c, got)
		}
		if x, y := TxGood(c), RxGood(c); x != (api.Counts{}) || y != (api.Counts{}) {
			t.Errorf("of %v came %v and %v", c, x, y)
		}
		for _, by := range amounts {
			if got, want := RxFail(c, by), (api.Counts{Rx: max(0, min(by, 255))}); got != want {
				t.Errorf("RxFail(%v, %d) = %v; want %v", c, by, got, want)
			}
		}
	}
}

func TestWhatComesCanBe(t *testing.T) { // P10.3, also of such as can't be
	for _, c := range append(all(), wrongs()...) {
		made := []api.Counts{TxFail(c), TxGood(c), RxGood(c)}
		for _, by := range amounts {
			made = append(made, RxFail(c, by))
		}
		for _, m := range made {
			if !Right(m) || m.Tx < 0 || m.Tx > 256 || m.Rx < 0 || m.Rx > 255 || m.Off != (m.Tx == 256) {
				t.Fatalf("of %v came %v", c, m)
			}
		}
	}
}

func TestSixteen(t *testing.T) { // P10.4
	c := api.Counts{}
	for n := 1; n <= 40; n++ {
		c = TxFail(c)
		want := api.Active
		switch {
		case n >= 32:
			want = api.OffBus
		case n >= 16:
			want = api.Passive
		}
		if got := Mode(c); got != want {
			t.Errorf("behind %d fails: %v, %d; want %d", n, c, got, want)
		}
	}
}

func TestNothingButFailsTakesOff(t *testing.T) { // P10.4
	for _, c := range all() {
		if c.Off {
			continue
		}
		made := []api.Counts{TxGood(c), RxGood(c)}
		for _, by := range amounts {
			made = append(made, RxFail(c, by))
		}
		for _, m := range made {
			if Mode(m) == api.OffBus || m.Tx > c.Tx {
				t.Fatalf("of %v came %v, without a fail of who sent", c, m)
			}
		}
	}
}

func TestBetterAndWorse(t *testing.T) { // P10.5
	for _, c := range append(all(), wrongs()...) {
		is := Mode(c)
		if x, y := Mode(TxGood(c)), Mode(RxGood(c)); x > is || y > is {
			t.Fatalf("a good frame made %d and %d of %v, which is %d", x, y, c, is)
		}
		if got := Mode(TxFail(c)); got < is {
			t.Fatalf("a failed one made %d of %v, which is %d", got, c, is)
		}
		for _, by := range amounts {
			if got := Mode(RxFail(c, by)); got < is {
				t.Fatalf("a failed one made %d of %v, which is %d", got, c, is)
			}
		}
	}
}
