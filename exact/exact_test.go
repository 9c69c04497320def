package exact

import (
	"math"
	"math/big"
	"testing"
)

// edges are numbers at both ends of 64 bits, around 0, around halves, and some between.
func edges() []int64 {
	list := []int64{0, 1, 2, 3, 6, 7, 10, 255, 1000003}
	for _, bit := range []uint{20, 31, 32, 33, 60, 61, 62} {
		list = append(list, 1<<bit-1, 1<<bit, 1<<bit+1)
	}
	list = append(list, math.MaxInt64/3, math.MaxInt64-2, math.MaxInt64-1, math.MaxInt64)
	for _, n := range list {
		list = append(list, -n)
	}
	return append(list, math.MinInt64)
}

func number(n int64) *big.Int { return big.NewInt(n) }

// below is the greatest whole number not above n/den, for a den from 1 on.
func below(n, den *big.Int) *big.Int {
	return new(big.Int).Div(n, den) // Euclid's division is rounding down there
}

// check holds an answer against the number it should be, nil if there is none.
func check(t *testing.T, name string, got int64, ok bool, want *big.Int, args ...int64) {
	t.Helper()
	if want == nil || !want.IsInt64() {
		if got != 0 || ok {
			t.Errorf("%s%v = %d, %v; want 0, false", name, args, got, ok)
		}
		return
	}
	if got != want.Int64() || !ok {
		t.Errorf("%s%v = %d, %v; want %v, true", name, args, got, ok, want)
	}
}

func TestAddSubMul(t *testing.T) { // P1.1
	for _, a := range edges() {
		for _, b := range edges() {
			x, y := number(a), number(b)
			got, ok := Add(a, b)
			check(t, "Add", got, ok, new(big.Int).Add(x, y), a, b)
			got, ok = Sub(a, b)
			check(t, "Sub", got, ok, new(big.Int).Sub(x, y), a, b)
			got, ok = Mul(a, b)
			check(t, "Mul", got, ok, new(big.Int).Mul(x, y), a, b)
		}
	}
}

func TestEndsOf64Bits(t *testing.T) { // P1.1, in numbers that are written out
	const least, most = math.MinInt64, math.MaxInt64
	for _, c := range []struct {
		name string
		call func(a, b int64) (int64, bool)
		a, b int64
		want int64
		ok   bool
	}{
		{"Add", Add, 2, 3, 5, true},
		{"Add", Add, most, 0, most, true},
		{"Add", Add, most - 1, 1, most, true},
		{"Add", Add, most, 1, 0, false},
		{"Add", Add, most, most, 0, false},
		{"Add", Add, least, most, -1, true},
		{"Add", Add, least + 1, -1, least, true},
		{"Add", Add, least, -1, 0, false},
		{"Add", Add, least, least, 0, false},
		{"Sub", Sub, 2, 3, -1, true},
		{"Sub", Sub, 0, most, -most, true},
		{"Sub", Sub, 0, least, 0, false},
		{"Sub", Sub, -1, least, most, true},
		{"Sub", Sub, least, least, 0, true},
		{"Sub", Sub, least, 1, 0, false},
		{"Sub", Sub, most, -1, 0, false},
		{"Mul", Mul, -4, 5, -20, true},
		{"Mul", Mul, least, 1, least, true},
		{"Mul", Mul, 1, least, least, true},
		{"Mul", Mul, least, -1, 0, false},
		{"Mul", Mul, -1, least, 0, false},
		{"Mul", Mul, least, least, 0, false},
		{"Mul", Mul, least, 0, 0, true},
		{"Mul", Mul, 0, most, 0, true},
		{"Mul", Mul, 1 << 62, 2, 0, false},
		{"Mul", Mul, 1 << 62, -2, least, true},
		{"Mul", Mul, 1 << 32, 1 << 32, 0, false},
		{"Mul", Mul, 3037000500, 3037000500, 0, false},
		{"Mul", Mul, 3037000499, 3037000499, 9223372030926249001, true},
		{"Div", Div, 7, 2, 3, true},
		{"Div", Div, -7, 2, -4, true},
		{"Div", Div, -8, 2, -4, true},
		{"Div", Div, -1, most, -1, true},
		{"Div", Div, least, 1, least, true},
		{"Div", Div, least, most, -2, true},
		{"Div", Div, 7, 0, 0, false},
		{"Div", Div, 7, -1, 0, false},
		{"Div", Div, least, -1, 0, false},
		{"Div", Div, 0, least, 0, false},
		{"Mod", Mod, 7, 2, 1, true},
		{"Mod", Mod, -7, 2, 1, true},
		{"Mod", Mod, -8, 2, 0, true},
		{"Mod", Mod, -1, most, most - 1, true},
		{"Mod", Mod, least, most, most - 1, true},
		{"Mod", Mod, 7, 0, 0, false},
		{"Mod", Mod, least, -1, 0, false},
		{"Mod", Mod, 0, least, 0, false},
	} {
		if got, ok := c.call(c.a, c.b); got != c.want || ok != c.ok {
			t.Errorf("%s(%d, %d) = %d, %v; want %d, %v", c.name, c.a, c.b, got, ok, c.want, c.ok)
		}
	}
}

func TestDivMod(t *testing.T) { // P1.1
	for _, a := range edges() {
		for _, b := range edges() {
			var quotient, rest *big.Int
			if b >= 1 {
				quotient = below(number(a), number(b))
				rest = new(big.Int).Sub(number(a), new(big.Int).Mul(number(b), quotient))
			}
			got, ok := Div(a, b)
			check(t, "Div", got, ok, quotient, a, b)
			got, ok = Mod(a, b)
			check(t, "Mod", got, ok, rest, a, b)
		}
	}
}

func TestScale(t *testing.T) { // P1.2
	for _, a := range edges() {
		for _, num := range edges() {
			product := new(big.Int).Mul(number(a), number(num))
			for _, den := range edges() {
				var want *big.Int
				if den >= 1 {
					want = below(product, number(den))
				}
				got, ok := Scale(a, num, den)
				check(t, "Scale", got, ok, want, a, num, den)
			}
		}
	}
}

func TestScaleWrittenOut(t *testing.T) { // P1.2, and the chapter's example
	const least, most = math.MinInt64, math.MaxInt64
	for _, c := range []struct {
		a, num, den int64
		want        int64
		ok          bool
	}{
		{7, 3, 2, 10, true},
		{-7, 3, 2, -11, true},
		{7, -3, 2, -11, true},
		{-7, -3, 2, 10, true},
		{0, -3, 2, 0, true},
		{-3, 0, 2, 0, true},
		{-1, 1, most, -1, true},
		{1 << 62, 6, 3, 0, false},
		{1 << 62, 3, 6, 1 << 61, true},
		{1 << 62, -6, 3, least, true},
		{least, -1, 1, 0, false},
		{least, -1, 2, 1 << 62, true},
		{least, least, most, 0, false},
		{least, most, most, least, true},
		{most, most, most, most, true},
		{most, most, most - 1, 0, false},
		{least, least, 1, 0, false},
		{most, -most, 1, 0, false},
		// Products of 2^64-1, 2^64+1 and 2^65-1, halved: what is rounded down stands at the least number, below it, and at -2^64.
		{4294967297, 4294967295, 2, most, true},
		{4294967297, -4294967295, 2, least, true},
		{274177, 67280421310721, 2, 0, false},
		{-274177, 67280421310721, 2, 0, false},
		{253921, 145295143558111, 2, 0, false},
		{253921, -145295143558111, 2, 0, false},
		{1, 1, 0, 0, false},
		{0, 0, 0, 0, false},
		{1, 1, -1, 0, false},
		{most, most, least, 0, false},
	} {
		if got, ok := Scale(c.a, c.num, c.den); got != c.want || ok != c.ok {
			t.Errorf("Scale(%d, %d, %d) = %d, %v; want %d, %v", c.a, c.num, c.den, got, ok, c.want, c.ok)
		}
	}
}

func TestClamp(t *testing.T) { // P1.2
	const least, most = math.MinInt64, math.MaxInt64
	for _, c := range []struct{ a, lo, hi, want int64 }{
		{5, 1, 9, 5},
		{0, 1, 9, 1},
		{1, 1, 9, 1},
		{9, 1, 9, 9},
		{10, 1, 9, 9},
		{least, -3, most, -3},
		{most, least, 3, 3},
		{most, least, most, most},
		{least, least, most, least},
		{4, 7, 7, 7},
		{8, 7, 7, 7},
		// Bounds that are the wrong way round: the lower one is asked first.
		{5, 9, 1, 9},
		{9, 9, 1, 1},
		{0, 9, 1, 9},
		{10, 9, 1, 1},
	} {
		if got := Clamp(c.a, c.lo, c.hi); got != c.want {
			t.Errorf("Clamp(%d, %d, %d) = %d; want %d", c.a, c.lo, c.hi, got, c.want)
		}
	}
}

func TestDist(t *testing.T) { // P1.2
	for _, a := range edges() {
		for _, b := range edges() {
			apart := new(big.Int).Sub(number(a), number(b))
			got, ok := Dist(a, b)
			check(t, "Dist", got, ok, apart.Abs(apart), a, b)
		}
	}
	if got, ok := Dist(-1, math.MaxInt64); got != 0 || ok {
		t.Errorf("Dist(-1, 2^63-1) = %d, %v; want 0, false", got, ok)
	}
	if got, ok := Dist(math.MinInt64, -1); got != math.MaxInt64 || !ok {
		t.Errorf("Dist(-2^63, -1) = %d, %v; want 2^63-1, true", got, ok)
	}
}

func TestSubTakesBackWhatAddPut(t *testing.T) { // P1.3
	for _, a := range edges() {
		for _, b := range edges() {
			sum, fits := Add(a, b)
			if !fits {
				continue
			}
			if back, ok := Sub(sum, b); back != a || !ok {
				t.Errorf("Sub(Add(%d, %d), %d) = %d, %v", a, b, b, back, ok)
			}
		}
	}
}

func TestDivAndModMakeTheNumberAgain(t *testing.T) { // P1.3
	for _, a := range edges() {
		for _, b := range edges() {
			quotient, ok := Div(a, b)
			rest, is := Mod(a, b)
			if ok != is || ok != (b >= 1) {
				t.Errorf("Div and Mod of %d by %d: %v, %v", a, b, ok, is)
			}
			if !ok {
				continue
			}
			if rest < 0 || rest >= b {
				t.Errorf("Mod(%d, %d) = %d", a, b, rest)
			}
			again := new(big.Int).Mul(number(quotient), number(b)) // may pass 64 bits on the way
			if again.Add(again, number(rest)).Cmp(number(a)) != 0 {
				t.Errorf("Div and Mod of %d by %d make %v", a, b, again)
			}
		}
	}
}

func TestScaleOfAlikeAndOfOne(t *testing.T) { // P1.4
	for _, a := range edges() {
		for _, den := range edges() {
			if den < 1 {
				continue
			}
			if got, ok := Scale(a, den, den); got != a || !ok {
				t.Errorf("Scale(%d, %d, %d) = %d, %v", a, den, den, got, ok)
			}
			got, ok := Scale(a, 1, den)
			want, is := Div(a, den)
			if got != want || ok != is {
				t.Errorf("Scale(%d, 1, %d) = %d, %v; Div is %d, %v", a, den, got, ok, want, is)
			}
		}
	}
}

func TestDistFromBothSides(t *testing.T) { // P1.5
	for _, a := range edges() {
		for _, b := range edges() {
			there, ok := Dist(a, b)
			back, is := Dist(b, a)
			if there != back || ok != is || there < 0 {
				t.Errorf("Dist of %d and %d: %d, %v and %d, %v", a, b, there, ok, back, is)
			}
		}
	}
}

func TestClampedIsWithinAndStays(t *testing.T) { // P1.5
	for _, a := range edges() {
		for _, lo := range edges() {
			for _, hi := range edges() {
				if lo > hi {
					continue
				}
				got := Clamp(a, lo, hi)
				if got < lo || got > hi || Clamp(got, lo, hi) != got || a >= lo && a <= hi && got != a {
					t.Errorf("Clamp(%d, %d, %d) = %d", a, lo, hi, got)
				}
			}
		}
	}
}
