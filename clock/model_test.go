package clock_test

import (
	"math"
	"math/big"
	"math/rand"
	"testing"

	"bellbuoy/api"
	"bellbuoy/clock"
)

// model is a clock as chapter 17 says it, in numbers of any size.
type model struct {
	count, value, rate, told int64
}

// scaled is ticks times rate, divided by One, rounded down.
func scaled(ticks *big.Int, rate int64) *big.Int {
	n := new(big.Int).Mul(ticks, big.NewInt(rate))
	return n.Div(n, big.NewInt(api.One)) // Euclid's, which is down, as One is above 0
}

func fits(n *big.Int) bool {
	return n.CmpAbs(big.NewInt(api.MaxTime)) <= 0
}

func (m *model) look(count int64) (int64, bool) {
	ticks := new(big.Int).Sub(big.NewInt(count), big.NewInt(m.count))
	grown := scaled(ticks, m.rate)
	value := new(big.Int).Add(grown, big.NewInt(m.value))
	if !ticks.IsInt64() || !grown.IsInt64() || !fits(value) {
		return 0, false
	}
	return value.Int64(), true
}

func (m *model) read(count int64) (int64, bool) {
	value, ok := m.look(count)
	if ok && value > m.told {
		m.told = value
	}
	return m.told, ok
}

func (m *model) shift(count, by int64) api.Errno {
	had, ok := m.look(count)
	value := new(big.Int).Add(big.NewInt(had), big.NewInt(by))
	if !ok || !fits(value) {
		return api.ErrOver
	}
	m.count, m.value = count, value.Int64()
	return api.OK
}

func (m *model) tune(count, rate int64) api.Errno {
	if rate < slowest || rate > fastest {
		return api.ErrRange
	}
	had, ok := m.look(count)
	if !ok {
		return api.ErrOver
	}
	m.count, m.value, m.rate = count, had, rate
	return api.OK
}

// around is a number near one of those that matter, or anywhere.
func around(chance *rand.Rand, middles ...int64) int64 {
	middles = append(middles, 0, 0, api.MaxTime, -api.MaxTime, math.MaxInt64, math.MinInt64)
	middle := middles[chance.Intn(len(middles))]
	switch chance.Intn(4) {
	case 0:
		return middle + int64(chance.Intn(5)) - 2 // round at both ends of 64 bits
	case 1:
		return middle + int64(chance.Intn(2001)) - 1000
	case 2:
		return middle + chance.Int63()>>chance.Intn(63)
	}
	return middle - chance.Int63()>>chance.Intn(63)
}

// anyRate is one that can be, for the most part.
func anyRate(chance *rand.Rand) int64 {
	switch chance.Intn(8) {
	case 0:
		return slowest - 1 + int64(chance.Intn(3))
	case 1:
		return fastest - 1 + int64(chance.Intn(3))
	case 2:
		return api.One - 1 + int64(chance.Intn(3))
	case 3:
		return around(chance, api.One)
	}
	return slowest + chance.Int63n(2*api.MaxTune+1)
}

// act does one thing to both, and fails if they answer not the same.
func act(t *testing.T, chance *rand.Rand, c *clock.Clock, m *model) {
	t.Helper()
	count := around(chance, m.count, m.count, m.count)
	switch chance.Intn(6) {
	case 0:
		had, _ := m.look(count)
		by := around(chance, api.MaxTime-had, -api.MaxTime-had, -had)
		want := m.shift(count, by)
		if got := c.Shift(count, by); got != want {
			t.Fatalf("Shift(%d, %d) = %d; want %d of %v", count, by, got, want, *m)
		}
	case 1:
		rate := anyRate(chance)
		want := m.tune(count, rate)
		if got := c.Tune(count, rate); got != want {
			t.Fatalf("Tune(%d, %d) = %d; want %d of %v", count, rate, got, want, *m)
		}
	case 2:
		want, wantOk := m.read(count)
		if got, ok := c.Read(count); got != want || ok != wantOk {
			t.Fatalf("Read(%d) = %d, %v; want %d, %v of %v", count, got, ok, want, wantOk, *m)
		}
	default:
		want, wantOk := m.look(count)
		if got, ok := c.Look(count); got != want || ok != wantOk {
			t.Fatalf("Look(%d) = %d, %v; want %d, %v of %v", count, got, ok, want, wantOk, *m)
		}
	}
}

func TestAnyCalls(t *testing.T) { // P17.1, P17.2: held against the model; P17.3: it never goes back
	chance := rand.New(rand.NewSource(51))
	for range 2000 {
		c, m := clock.New(), &model{rate: api.One}
		last := int64(0)
		for range 60 {
			act(t, chance, c, m)
			if c.Rate() != m.rate || c.Last() != m.told {
				t.Fatalf("rate %d, last %d; want %v", c.Rate(), c.Last(), *m)
			}
			if c.Last() < last {
				t.Fatalf("it told %d behind %d", c.Last(), last)
			}
			last = c.Last()
		}
	}
}

// worn is a clock of which this and that was asked, near a count.
func worn(chance *rand.Rand, near int64) *clock.Clock {
	c := clock.New()
	for range chance.Intn(6) {
		count := near + int64(chance.Intn(100000)) - 50000
		switch chance.Intn(3) {
		case 0:
			c.Shift(count, int64(chance.Intn(2000))-1000)
		case 1:
			c.Tune(count, anyRate(chance))
		default:
			c.Read(count)
		}
	}
	return c
}

func TestNeverBack(t *testing.T) { // P17.3
	chance := rand.New(rand.NewSource(52))
	for range 2000 {
		c := clock.New()
		last := int64(0)
		for range 80 {
			count := int64(chance.Intn(3000)) - 500
			switch chance.Intn(5) {
			case 0:
				c.Shift(count, int64(chance.Intn(400))-250)
			case 1:
				c.Tune(count, anyRate(chance))
			case 2:
				count = around(chance)
			}
			value, ok := c.Look(count)
			told, is := c.Read(count)
			if is != ok || told < last || told != c.Last() {
				t.Fatalf("Read(%d) = %d, %v behind %d, and then Last %d", count, told, is, last, c.Last())
			}
			if ok && told != max(value, last) || !ok && told != last {
				t.Fatalf("Read(%d) = %d; it has %d, %v, and told %d", count, told, value, ok, last)
			}
			last = told
		}
	}
}

func TestMovedByJustThat(t *testing.T) { // P17.4
	chance := rand.New(rand.NewSource(53))
	for range 20000 {
		near := chance.Int63n(1 << 58)
		c := worn(chance, near)
		count := near + int64(chance.Intn(100000)) - 50000
		by, rate := int64(chance.Intn(5000))-2500, slowest+chance.Int63n(2*api.MaxTune+1)
		had, _ := c.Look(count)
		last := c.Last()
		tunes(t, c, count, rate, api.OK)
		looks(t, c, count, had)
		shifts(t, c, count, by, api.OK)
		looks(t, c, count, had+by)
		if c.Rate() != rate || c.Last() != last {
			t.Fatalf("rate %d, last %d; want %d, %d", c.Rate(), c.Last(), rate, last)
		}
	}
}

func TestSlope(t *testing.T) { // P17.5
	chance := rand.New(rand.NewSource(54))
	up, down := false, false
	for range 20000 {
		near := chance.Int63n(1 << 58)
		c := worn(chance, near)
		a := near + int64(chance.Intn(200000)) - 100000
		b := a + chance.Int63n(1<<58)>>chance.Intn(58)
		first, _ := c.Look(a)
		then, ok := c.Look(b)
		if !ok {
			t.Fatalf("it has nothing at %d", b)
		}
		least := scaled(big.NewInt(b-a), c.Rate()).Int64()
		most := -scaled(big.NewInt(a-b), c.Rate()).Int64()
		if then-first < least || then-first > most {
			t.Fatalf("from %d to %d it grew by %d; want %d to %d", a, b, then-first, least, most)
		}
		up, down = up || then-first > least, down || then-first < most
	}
	if !up || !down {
		t.Errorf("rounded up %v, down %v: the counts that were tried tell nothing", up, down)
	}
}

func TestSlopeAcrossTunes(t *testing.T) { // P17.5: to the same rate, without a shift, each tune may round once more
	chance := rand.New(rand.NewSource(55))
	for range 500 {
		rate := slowest + chance.Int63n(2*api.MaxTune+1)
		c := tuned(t, rate)
		tuning, count := int64(0), int64(0)
		for range 10 {
			count += int64(chance.Intn(10000))
			tunes(t, c, count, rate, api.OK)
			tuning++
			got, ok := c.Look(count)
			want := scaled(big.NewInt(count), rate).Int64()
			if !ok || got > want || got < want-tuning {
				t.Fatalf("behind %d tunes it has %d, %v at %d; want %d", tuning, got, ok, count, want)
			}
		}
	}
}
