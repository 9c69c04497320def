package accord_test

import (
	"math/big"
	"math/rand"
	"testing"

	"bellbuoy/accord"
	"bellbuoy/api"
	"bellbuoy/rate"
)

// moment is what both had behind a bit, and what they told.
type moment struct {
	master, slave       int64
	toldMaster, toldOne int64
	just                bool // the slave told what it had
}

// model is a pair as chapter 19 says it: it keeps each bit that was, and what was done behind which one.
type model struct {
	config      accord.Config
	here, there int64 // what the slave, and the master counted
	from, value int64 // from where the slave's clock goes on
	rate        int64
	moments     []moment
	noted       int   // the bit, or -1
	notedAt     []int // of all that was applied: the bit at which it was noted
	appliedAt   []int // and the bit behind which it was applied
}

func newModel(c accord.Config, start int64) *model {
	return &model{config: c, value: start, rate: api.One, noted: -1, moments: []moment{{slave: start, toldOne: start}}}
}

// has is what the slave's clock has.
func (m *model) has() int64 {
	n := new(big.Int).Mul(big.NewInt(m.here-m.from), big.NewInt(m.rate))
	n.Div(n, big.NewInt(api.One))
	return n.Add(n, big.NewInt(m.value)).Int64()
}

// now is the last moment, as it was behind its bit.
func (m *model) now() *moment { return &m.moments[len(m.moments)-1] }

func (m *model) step(master, slave int64) api.Errno {
	for _, ticks := range []int64{master, slave} {
		if ticks < 0 || ticks > api.MaxInc {
			return api.ErrRange
		}
	}
	m.there += master
	m.here += slave
	has := m.has()
	told := max(m.now().toldOne, has)
	m.moments = append(m.moments, moment{master: m.there, slave: has, toldMaster: m.there, toldOne: told, just: told == has})
	return api.OK
}

// capture is behind no bit but the last one: what was applied there changes what the slave has there.
func (m *model) capture() {
	m.noted = len(m.moments) - 1
	m.now().slave = m.has()
}

func (m *model) apply(rate int64) api.Errno {
	if m.noted < 0 {
		return api.ErrState
	}
	if rate < api.One-m.config.Tune || rate > api.One+m.config.Tune {
		return api.ErrRange
	}
	then := m.moments[m.noted]
	m.value = m.has() + then.master - then.slave
	m.from, m.rate = m.here, rate
	m.notedAt = append(m.notedAt, m.noted)
	m.appliedAt = append(m.appliedAt, len(m.moments)-1)
	m.noted = -1
	return api.OK
}

// settled asks each bit behind that of what was applied first.
func (m *model) settled() bool {
	if len(m.appliedAt) == 0 {
		return false
	}
	for _, then := range m.moments[m.appliedAt[0]+1:] {
		if then.just {
			return true
		}
	}
	return false
}

func (m *model) gap() int64 {
	if len(m.notedAt) == 0 {
		return 0
	}
	return int64(len(m.moments) - 1 - m.notedAt[len(m.notedAt)-1])
}

// same fails unless a pair answers as the model.
func (m *model) same(t *testing.T, p *accord.Pair) {
	t.Helper()
	now := m.now()
	if p.Master() != now.toldMaster || p.Slave() != now.toldOne || p.Settled() != m.settled() || p.Gap() != m.gap() {
		t.Fatalf("master %d, slave %d, settled %v, gap %d; want %d, %d, %v, %d", p.Master(), p.Slave(), p.Settled(), p.Gap(), now.toldMaster, now.toldOne, m.settled(), m.gap())
	}
}

// anyTicks are such as a bit may have, or at a bound of these, or any.
func anyTicks(chance *rand.Rand, b api.Beat) int64 {
	switch chance.Intn(10) {
	case 0:
		return min(b.Nominal+b.Drift, api.MaxInc)
	case 1:
		return b.Nominal - b.Drift
	case 2:
		return chance.Int63n(api.MaxInc + 1)
	case 3:
		return -1 - chance.Int63n(5)
	case 4:
		return api.MaxInc + 1 + chance.Int63n(5)
	}
	return min(b.Nominal-b.Drift+chance.Int63n(2*b.Drift+1), api.MaxInc)
}

func TestAnyCalls(t *testing.T) { // P19.2, P19.3, P19.5
	chance := rand.New(rand.NewSource(52))
	for range 1500 {
		c := anyConfig(chance)
		start := chance.Int63n(mostStart+1) >> chance.Intn(51)
		p, m := made(t, c, start), newModel(c, start)
		for range 60 {
			master, slave := p.Master(), p.Slave()
			switch chance.Intn(8) {
			case 0:
				captures(t, p)
				m.capture()
			case 1, 2:
				by := api.One + chance.Int63n(2*c.Tune+3) - c.Tune - 1
				applies(t, p, by, m.apply(by))
			default:
				there, here := anyTicks(chance, c.Beat), anyTicks(chance, c.Beat)
				steps(t, p, there, here, m.step(there, here))
			}
			m.same(t, p)
			if p.Master() < master || p.Slave() < slave {
				t.Fatalf("%d, %d behind %d, %d", p.Master(), p.Slave(), master, slave)
			}
			if t.Failed() {
				return
			}
		}
	}
}

// keeper holds what both tell against the bound, bit by bit.
type keeper struct {
	config accord.Config
	pair   *accord.Pair
	gap    int64 // the greatest one
	apart  int64 // how far both were apart at the last bit
}

func (k *keeper) step(t *testing.T, master, slave int64) {
	t.Helper()
	toldMaster, toldSlave := k.pair.Master(), k.pair.Slave()
	steps(t, k.pair, master, slave, api.OK)
	if k.pair.Master() < toldMaster || k.pair.Slave() < toldSlave {
		t.Fatalf("%v: %d, %d behind %d, %d", k.config, k.pair.Master(), k.pair.Slave(), toldMaster, toldSlave)
	}
	k.gap = max(k.gap, k.pair.Gap())
	k.apart = k.pair.Slave() - k.pair.Master()
	most, ok := accord.Bound(k.config, k.gap)
	if k.pair.Settled() && (!ok || k.apart > most || k.apart < -most) {
		t.Fatalf("%v: %d apart; at most %d of %d bits", k.config, k.apart, most, k.gap)
	}
}

// sync lets bits go by between what is noted and applied.
func (k *keeper) sync(t *testing.T, rate int64, bits int, ticks func() (int64, int64)) {
	t.Helper()
	captures(t, k.pair)
	for range bits {
		master, slave := ticks()
		k.step(t, master, slave)
	}
	applies(t, k.pair, rate, api.OK)
	k.gap = max(k.gap, k.pair.Gap())
}

func TestBoundOfAnyBits(t *testing.T) { // P19.4, P19.5
	chance := rand.New(rand.NewSource(53))
	for range 1200 {
		c := anyConfig(chance)
		for c.Beat.Nominal+c.Beat.Drift > api.MaxInc {
			c = anyConfig(chance)
		}
		b := c.Beat
		k := &keeper{config: c, pair: made(t, c, chance.Int63n(5*b.Nominal))}
		ticks := func() (int64, int64) {
			one := func() int64 { return b.Nominal - b.Drift + chance.Int63n(2*b.Drift+1) }
			if chance.Intn(2) == 0 {
				one = func() int64 { return b.Nominal + b.Drift*int64(1-2*chance.Intn(2)) }
			}
			return one(), one()
		}
		for range 25 {
			k.sync(t, api.One-c.Tune+chance.Int63n(2*c.Tune+1), chance.Intn(4), ticks)
			for range chance.Intn(9) {
				k.step(t, first(ticks), first(ticks))
			}
		}
		if !k.pair.Settled() && b.Drift < b.Nominal/2 && k.pair.Master() > 12*b.Nominal {
			t.Fatalf("%v: it never followed", c)
		}
	}
}

func first(ticks func() (int64, int64)) int64 {
	n, _ := ticks()
	return n
}

func TestBoundAtBounds(t *testing.T) { // P19.4: one oscillator is fast and the other slow, and so are their rates: they come near to the bound, and not past it
	for _, c := range []accord.Config{
		config(100, 1, 0), config(100, 0, 0), config(100, 99, 0), config(100, 1, 16), config(100, 0, 1), config(255, 1, api.MaxTune), config(256, 0, api.MaxTune),
		config(1000, 7, api.MaxTune), config(1, 0, api.MaxTune), config(2, 1, api.MaxTune), config(1<<19, 1<<19-1, api.MaxTune), config(1<<19, 0, 1), config(api.MaxInc, 0, api.MaxTune),
	} {
		fast, slow := c.Beat.Nominal+c.Beat.Drift, c.Beat.Nominal-c.Beat.Drift
		for _, gap := range []int64{1, 2, 7, 300} {
			ahead := runs(t, c, gap, slow, fast, api.One+c.Tune)
			exact := new(big.Rat).Mul(big.NewRat(c.Beat.Nominal+c.Beat.Drift, api.One), big.NewRat(c.Tune*gap, 1))
			exact.Add(exact, big.NewRat(2*c.Beat.Drift*gap, 1)) // what is not rounded up
			least := new(big.Rat).Sub(exact, big.NewRat(4, 1))
			if new(big.Rat).SetInt64(ahead).Cmp(least) < 0 {
				t.Errorf("%v: just %d ahead behind %d bits; %s may be", c, ahead, gap, exact.FloatString(2))
			}
			behind := runs(t, c, gap, fast, slow, api.One-c.Tune)
			if behind > -2*c.Beat.Drift*gap {
				t.Errorf("%v: just %d behind %d bits", c, behind, gap)
			}
		}
	}
}

// runs is how far the slave is ahead at the end of many gaps of so many bits, of which each bit has that many ticks.
func runs(t *testing.T, c accord.Config, gap, master, slave, rate int64) int64 {
	t.Helper()
	k := &keeper{config: c, pair: made(t, c, 0)}
	for range 10 {
		k.sync(t, rate, int(gap/2), func() (int64, int64) { return master, slave })
		for range gap - gap/2 {
			k.step(t, master, slave)
		}
		k.sync(t, rate, 0, nil) // one that is applied at once
		for range gap {
			k.step(t, master, slave)
		}
	}
	if !k.pair.Settled() || k.gap != gap+gap/2 { // what is noted at the end of one is applied within the next
		t.Fatalf("%v: settled %v, behind gaps of up to %d bits", c, k.pair.Settled(), k.gap)
	}
	return k.apart
}

func TestBoundOfEstimates(t *testing.T) { // P19.4: rates are estimated, and each oscillator drifts from one bound to the other
	c := config(1000, 3, api.MaxTune)
	k := &keeper{config: c, pair: made(t, c, 5000)}
	e, _ := rate.New(c.Tune, 3)
	here := int64(0)
	for round := range int64(200) {
		lean := round/50*2 - 3
		ticks := func() (int64, int64) {
			here += 1000 - lean
			return 1000 + lean, 1000 - lean
		}
		e.Add(rate.Sample{There: k.pair.Master(), Here: here})
		k.sync(t, e.Rate(), 2, ticks)
		for range 10 + round%10 {
			master, slave := ticks()
			k.step(t, master, slave)
		}
		if round > 5 && !k.pair.Settled() {
			t.Fatal("it does not follow")
		}
	}
	most, _ := accord.Bound(c, k.gap)
	if alone, _ := accord.Bound(config(1000, 3, 0), k.gap); k.apart < -alone || k.apart > alone {
		t.Errorf("%d apart: no nearer than a clock that is never tuned may be, %d, where %d is the bound", k.apart, alone, most)
	}
}
