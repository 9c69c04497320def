package accord

import (
	"testing"

	"bellbuoy/api"
)

// late is a pair whose slave's clock has the last time there is, behind a bit: no number of calls gets there in a test's time.
func late(t *testing.T) *Pair {
	t.Helper()
	p, errno := New(Config{Beat: api.Beat{Nominal: 100, Drift: 1}, Tune: 16}, 0)
	if errno != api.OK || p.Step(100, 100) != api.OK || p.slave.Shift(100, api.MaxTime-100) != api.OK {
		t.Fatal("no pair")
	}
	return p
}

func TestCaptureOfNothing(t *testing.T) { // P19.2: where a clock has nothing, nothing is noted
	p := late(t)
	if !p.Capture() {
		t.Error("Capture() = false at the last time there is")
	}
	p = late(t)
	if errno := p.Step(1, 1); errno != api.OK {
		t.Fatalf("Step = %d", errno)
	}
	if p.Capture() {
		t.Error("Capture() of a slave that has nothing")
	}
	if errno := p.Apply(api.One); errno != api.ErrState {
		t.Errorf("Apply = %d", errno)
	}
	p = late(t)
	p.slave, p.master = p.master, p.slave
	p.Step(1, 1)
	if p.Capture() {
		t.Error("Capture() of a master that has nothing")
	}
}

func TestApplyPastTheEnd(t *testing.T) { // P19.2: the error of a call is told, and the note is gone
	for _, ticks := range []int64{0, 1, 5} { // it can be shifted no more, or not be tuned either
		p := late(t)
		if !p.Capture() || p.Step(0, ticks) != api.OK {
			t.Fatal("nothing is noted")
		}
		p.noted.less = 7
		if errno := p.Apply(api.One + 16); errno != api.ErrOver {
			t.Errorf("Apply = %d behind %d ticks", errno, ticks)
		}
		if errno := p.Apply(api.One); errno != api.ErrState {
			t.Errorf("Apply = %d, once more", errno)
		}
		if p.Gap() != 0 || p.Settled() {
			t.Errorf("gap %d, settled %v of nothing that was applied", p.Gap(), p.Settled())
		}
	}
}

func TestSettledOfNothing(t *testing.T) { // P19.3: what it told last is not what it has, where it has nothing
	p := late(t)
	if !p.Capture() {
		t.Fatal("nothing is noted")
	}
	p.noted.less = 0
	if errno := p.Apply(api.One); errno != api.OK {
		t.Fatalf("Apply = %d", errno)
	}
	for range 3 {
		if errno := p.Step(1, 1); errno != api.OK || p.Settled() || p.Slave() != 100 {
			t.Errorf("Step = %d; settled %v, slave %d", errno, p.Settled(), p.Slave())
		}
	}
}
