package station_test

import (
	"testing"

	"bellbuoy/api"
	"bellbuoy/slave"
	"bellbuoy/station"
)

// master is node k of a network, that has just become master: it has counted so many ticks.
func master(t *testing.T, k int) (*station.Station, int64) {
	t.Helper()
	s := made(t, plant(), k)
	bits(s, waits+k*step+1)
	if !s.Master() {
		t.Fatalf("node %d is no master", k)
	}
	return s, nominal * int64(waits+k*step+1)
}

func TestMaster(t *testing.T) { // P29.2: step 5: its number is its rank
	for k := range 4 {
		s := made(t, plant(), k)
		for range waits + k*step {
			bits(s, 1)
			if s.Master() {
				t.Fatalf("node %d is master too soon", k)
			}
			wants(t, s, none)
		}
		bits(s, 1)
		if !s.Master() {
			t.Errorf("node %d is no master", k)
		}
		wants(t, s, word(t, turn(k, 1)))
	}
}

func TestTurns(t *testing.T) { // P29.2: steps 3 and 5: a turn, and what follows it, again and again
	s, now := master(t, 1)
	for round := 1; round < 5; round++ {
		wants(t, s, word(t, turn(1, round)))
		bits(s, 3)
		begins(s)
		bits(s, 4)
		wants(t, s, word(t, turn(1, round)))
		sends(s)
		told := now + 9*nominal
		wants(t, s, word(t, follow(1, round, told)))
		bits(s, 2)
		begins(s)
		sends(s)
		wants(t, s, none)
		bits(s, period-14)
		wants(t, s, none)
		bits(s, 1)
		now += period * nominal
	}
	fates(t, s) // words have none that is told
	stands(t, s, now, now, false)
}

func TestTurnThatFails(t *testing.T) { // P29.2: step 3: what was not sent is not followed by anything
	s, _ := master(t, 1)
	for _, over := range []func(s *station.Station){loses, func(s *station.Station) { s.Took(api.Happen{Bad: api.AckBad}, api.Flagging, nominal) }} {
		begins(s)
		bits(s, 2)
		over(s)
		bits(s, 2)
		wants(t, s, word(t, turn(1, 1)))
	}
	begins(s)
	sends(s)
	wants(t, s, word(t, follow(1, 1, s.Time())))
}

func TestTurnThatWaits(t *testing.T) { // P29.2: while there is one of its tag none is submitted, but rounds go on
	s, _ := master(t, 1)
	bits(s, period)
	wants(t, s, word(t, turn(1, 1)))
	bits(s, period)
	begins(s)
	sends(s)
	first := word(t, follow(1, 3, s.Time())) // the round that there is now
	wants(t, s, first)
	bits(s, period-3)
	wants(t, s, first)
	bits(s, 1)
	wants(t, s, word(t, turn(1, 4)))
	begins(s)
	sends(s)
	wants(t, s, first) // no second one
	begins(s)
	sends(s)
	wants(t, s, none)
	bits(s, period-4)
	wants(t, s, word(t, turn(1, 5)))
	begins(s)
	sends(s)
	wants(t, s, word(t, follow(1, 5, s.Time())))
}

func TestTurnAtASend(t *testing.T) { // P29.2: steps 3 and 5 of one bit: what is sent is out of its mailbox, and is followed by the round ahead
	s, _ := master(t, 1)
	bits(s, period-2)
	begins(s)
	sends(s)
	wants(t, s, word(t, turn(1, 2)))
	told := s.Time()
	begins(s)
	sends(s)
	wants(t, s, word(t, follow(1, 1, told)))
}

func TestRounds(t *testing.T) { // P29.2: step 5: modulo 65536
	for ahead, next := range []int{0, 65535, 65534} {
		s := made(t, changed(func(p *api.Plant) { p.Base, p.Period, p.Step = 1, 1, 1 }), 1)
		bits(s, 65536-ahead) // one is told at the third bit, and at each behind that
		wants(t, s, word(t, turn(1, 1)))
		begins(s)
		sends(s)
		told := s.Time()
		wants(t, s, word(t, turn(1, next)))
		gets(s, word(t, turn(0, 1)))
		begins(s)
		sends(s)
		wants(t, s, word(t, follow(1, 65535-ahead, told)))
	}
}

func TestWordsAheadOfFrames(t *testing.T) { // P29.2: step 7: a frame of the scheduler waits beside words, and is sent behind them
	s := made(t, plant(), 1)
	releases(t, s, 3, 0)
	bits(s, waits+step)
	wants(t, s, three(5))
	bits(s, 1)
	wants(t, s, word(t, turn(1, 1)))
	releases(t, s, 6, 1)
	wants(t, s, word(t, turn(1, 1)))
	begins(s)
	sends(s)
	wants(t, s, word(t, follow(1, 1, s.Time())))
	begins(s)
	sends(s)
	wants(t, s, six(2))
	begins(s)
	bits(s, period) // another turn comes while it is sent
	wants(t, s, six(2))
	sends(s)
	wants(t, s, word(t, turn(1, 2)))
	begins(s)
	cancels(t, s, 0, api.OK) // while a word is sent, a frame may go
	loses(s)
	begins(s)
	sends(s)
	begins(s)
	sends(s)
	wants(t, s, none)
	fates(t, s, api.Outcome{Tag: 1, Fate: api.Delivered, At: 1170}, api.Outcome{Tag: 0, Fate: api.Cancelled, At: 1180})
}

func TestYields(t *testing.T) { // P29.2: steps 4 and 5: turns of better ranks alone make it no master
	for _, c := range []struct {
		word slave.Word
		want bool
	}{{turn(0, 5), false}, {turn(1, 5), true}, {turn(2, 5), true}, {turn(31, 5), true}, {follow(0, 5, 3), true}, {follow(2, 5, 3), true}} {
		s, _ := master(t, 1)
		gets(s, word(t, c.word))
		if s.Master() != c.want {
			t.Errorf("%v was heard: master %v", c.word, s.Master())
		}
		wants(t, s, word(t, turn(1, 1))) // what it told still waits
	}
	for _, c := range []struct {
		word slave.Word
		want int // how many bits more it waits
	}{{turn(0, 5), 70}, {turn(1, 5), 0}, {turn(2, 5), 0}, {follow(0, 5, 3), 0}} {
		s := made(t, plant(), 1)
		bits(s, 69)
		gets(s, word(t, c.word))
		bits(s, 10+c.want)
		if s.Master() {
			t.Errorf("%v was heard: it is master too soon", c.word)
		}
		bits(s, 1)
		if !s.Master() {
			t.Errorf("%v was heard: it is no master", c.word)
		}
	}
}

func TestFollow(t *testing.T) { // P29.2: step 4, of rates that are One
	s := made(t, changed(func(p *api.Plant) { p.Base, p.Tune = 10000, 0 }), 1)
	bits(s, 10)
	gets(s, word(t, turn(0, 7))) // at 110
	bits(s, 5)
	stands(t, s, 160, 160, false)
	gets(s, word(t, follow(0, 7, 5000)))
	stands(t, s, 170, 170, true) // the time is what the clock told last
	bits(s, 1)
	stands(t, s, 180+4890, 180, true)
	gets(s, word(t, turn(0, 8))) // at 190: 5080
	gets(s, word(t, follow(0, 8, 5030)))
	stands(t, s, 5090, 200, true)
	for range 5 { // it has 50 less, and waits
		bits(s, 1)
		if s.Time() != 5090 {
			t.Fatalf("time %d", s.Time())
		}
	}
	bits(s, 1)
	stands(t, s, 5100, 260, true)
	gets(s, word(t, turn(3, 9))) // one that is worse tells the time, too
	gets(s, word(t, follow(3, 9, 0)))
	bits(s, 3)
	stands(t, s, 5120, 310, true)
}

func TestFollowOfNoTurn(t *testing.T) { // P29.2: step 4: words that do not belong together tell nothing
	for _, list := range [][]slave.Word{
		{follow(0, 7, 5000)},
		{turn(0, 7), follow(0, 8, 5000)},
		{turn(0, 7), follow(2, 7, 5000)},
		{turn(0, 7), turn(2, 7), follow(0, 7, 5000)},
		{turn(1, 7), follow(1, 7, 5000)}, // its own rank's
		{turn(0, 7), turn(0, 8), follow(0, 7, 5000)},
	} {
		s := calm(t)
		for _, w := range list {
			gets(s, word(t, w))
		}
		bits(s, 1)
		want := nominal * int64(len(list)+1)
		stands(t, s, want, want, false)
	}
	s := calm(t)
	gets(s, word(t, turn(0, 7)))
	gets(s, word(t, turn(1, 7))) // nor does its own rank's come between
	gets(s, word(t, follow(0, 6, 300)))
	gets(s, word(t, follow(0, 7, 5000)))
	gets(s, word(t, follow(0, 7, 9000))) // no second one
	bits(s, 1)
	stands(t, s, 5050, 60, true)
}

func TestMasterFollowsNobody(t *testing.T) { // P29.2: step 4: as it is ahead of the tick of taking turns
	s, now := master(t, 1)
	gets(s, word(t, turn(2, 3)))
	gets(s, word(t, follow(2, 3, 100000)))
	bits(s, 1)
	now += 3 * nominal
	stands(t, s, now, now, false)
	gets(s, word(t, turn(0, 3)))
	if s.Master() {
		t.Fatal("it is master")
	}
	gets(s, word(t, follow(0, 3, 100000)))
	bits(s, 1)
	stands(t, s, 100020, now+30, true)

	s = made(t, plant(), 1)
	gets(s, word(t, turn(2, 3)))
	bits(s, waits+step-1)
	gets(s, word(t, follow(2, 3, 100000))) // at which it becomes master
	if !s.Master() || !s.Synced() {
		t.Errorf("master: %v, synced: %v", s.Master(), s.Synced())
	}
	bits(s, 1)
	if s.Time() != 100000+(waits+step+1)*nominal {
		t.Errorf("time %d", s.Time())
	}
}

func TestTimeThatIsTold(t *testing.T) { // P29.2: step 3: modulo 2^48
	const behind = (waits + step + 3) * nominal // of the bit at which a turn was sent, from that on at which a master's time was told
	for _, c := range []struct{ from, want int64 }{{1<<48 - 500, behind - 500}, {1<<48 - behind, 0}, {1<<48 - behind - 1, 1<<48 - 1}, {1 << 47, 1<<47 + behind}, {1<<48 - 1, behind - 1}} {
		s := made(t, plant(), 1)
		gets(s, word(t, turn(0, 1)))
		gets(s, word(t, follow(0, 1, c.from)))
		bits(s, waits+step)
		wants(t, s, word(t, turn(1, 1)))
		begins(s)
		sends(s)
		stands(t, s, c.from+behind, behind+nominal, true)
		wants(t, s, word(t, follow(1, 1, c.want)))
	}
}

// line is a clock as chapter 17 says it: it goes on from a count, with a value, by a rate.
type line struct{ count, value, rate int64 }

func (l line) at(count int64) int64 { return l.value + (count-l.count)*l.rate/api.One }

func TestRate(t *testing.T) { // P29.2: step 4: by the middle one of three rates, within bounds
	const far = 1 << 20
	s := calm(t)
	l, there := line{rate: api.One}, int64(far)
	for i, c := range []struct{ more, rate int64 }{{0, 0}, {50, 50}, {-80, -80}, {20, 20}, {90, 20}, {60, 60}, {3000, 90}, {-3000, 60}, {-3000, -100}, {1000, -100}, {1000, 100}, {1000, 100}} {
		there += far + c.more // of so much more in as many ticks
		s.Took(api.Happen{Got: true, Frame: word(t, turn(0, i))}, api.Pausing, far-1000)
		here := s.Count()
		s.Took(api.Happen{Got: true, Frame: word(t, follow(0, i, there))}, api.Pausing, 300)
		now := s.Count()
		if want := l.at(now); s.Time() != want {
			t.Fatalf("%d: time %d; want %d", i, s.Time(), want)
		}
		l = line{now, l.at(now) + there - l.at(here), api.One + c.rate}
		s.Took(nothing, api.Ready, 700)
	}
	for _, ticks := range []int64{1, 10, api.MaxInc} {
		s.Took(nothing, api.Ready, ticks)
		if want := l.at(s.Count()); s.Time() != want {
			t.Fatalf("time %d; want %d", s.Time(), want)
		}
	}
}
