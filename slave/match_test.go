package slave_test

import (
	"math"
	"math/rand"
	"testing"

	"bellbuoy/slave"
)

// nothing fails unless what is heard tells nothing.
func nothing(t *testing.T, m *slave.Match, w slave.Word, count int64) {
	t.Helper()
	if here, there, ok := m.Hear(w, count); here != 0 || there != 0 || ok {
		t.Errorf("Hear(%v, %d) = %d, %d, %v", w, count, here, there, ok)
	}
}

// told fails unless what is heard tells that.
func told(t *testing.T, m *slave.Match, w slave.Word, count, wantHere, wantThere int64) {
	t.Helper()
	if here, there, ok := m.Hear(w, count); here != wantHere || there != wantThere || !ok {
		t.Errorf("Hear(%v, %d) = %d, %d, %v; want %d, %d", w, count, here, there, ok, wantHere, wantThere)
	}
}

// waits fails unless the turn of that rank and round is noted, idle if any is.
func waits(t *testing.T, m *slave.Match, wantRank, wantRound int) {
	t.Helper()
	if rank, round, ok := m.Waits(); rank != wantRank || round != wantRound || !ok {
		t.Errorf("Waits() = %d, %d, %v; want %d, %d", rank, round, ok, wantRank, wantRound)
	}
}

func idle(t *testing.T, m *slave.Match) {
	t.Helper()
	if rank, round, ok := m.Waits(); rank != 0 || round != 0 || ok {
		t.Errorf("Waits() = %d, %d, %v", rank, round, ok)
	}
}

func TestHear(t *testing.T) { // P20.2
	m := slave.New()
	idle(t, m)
	nothing(t, m, turn(3, 258), 7)
	waits(t, m, 3, 258)
	told(t, m, follow(3, 258, 9), 11, 7, 9)
	idle(t, m)
	nothing(t, m, turn(3, 259), 20)
	waits(t, m, 3, 259)
	told(t, m, follow(3, 259, 30), 21, 20, 30)
	idle(t, m)
}

func TestHearOfZeros(t *testing.T) { // P20.2: a turn of rank 0 and round 0 is one, and was not heard at first
	m := slave.New()
	nothing(t, m, follow(0, 0, 0), 0)
	nothing(t, m, follow(0, 0, 9), 5)
	idle(t, m)
	nothing(t, m, turn(0, 0), 0)
	waits(t, m, 0, 0)
	told(t, m, follow(0, 0, 0), 5, 0, 0)
	idle(t, m)
	nothing(t, m, follow(0, 0, 0), 5)
}

func TestFollowAlone(t *testing.T) { // P20.2, example 1
	m := slave.New()
	for _, rank := range ranks {
		for _, time := range times {
			nothing(t, m, follow(rank, 258, time), 5)
			idle(t, m)
		}
	}
	nothing(t, m, turn(3, 258), 7)
	told(t, m, follow(3, 258, 9), 8, 7, 9)
}

func TestFollowOfAnother(t *testing.T) { // P20.2: of another rank, or round, it changes nothing
	m := slave.New()
	nothing(t, m, turn(3, 258), 7)
	for _, w := range []slave.Word{follow(2, 258, 9), follow(4, 258, 9), follow(3, 257, 9), follow(3, 259, 9), follow(3, 2, 9), follow(0, 0, 0), follow(31, 65535, lastTime), follow(258%32, 3, 9)} {
		nothing(t, m, w, 8)
		waits(t, m, 3, 258)
	}
	told(t, m, follow(3, 258, 10), 9, 7, 10)
}

func TestFollowTwice(t *testing.T) { // P20.2, P20.4
	m := slave.New()
	nothing(t, m, turn(3, 258), 7)
	told(t, m, follow(3, 258, 9), 8, 7, 9)
	nothing(t, m, follow(3, 258, 9), 9)
	nothing(t, m, follow(3, 258, 10), 10)
	idle(t, m)
	nothing(t, m, turn(3, 258), 11) // the same turn again is another one
	told(t, m, follow(3, 258, 10), 12, 11, 10)
}

func TestTurnTwice(t *testing.T) { // P20.2, P20.4: the later one is noted, the same or not
	m := slave.New()
	nothing(t, m, turn(3, 258), 7)
	nothing(t, m, turn(3, 258), 20)
	waits(t, m, 3, 258)
	told(t, m, follow(3, 258, 9), 21, 20, 9)
	nothing(t, m, follow(3, 258, 9), 22) // the one ahead is gone, too
	nothing(t, m, turn(3, 258), 7)
	nothing(t, m, turn(3, 259), 8)
	waits(t, m, 3, 259)
	nothing(t, m, turn(4, 259), 9)
	waits(t, m, 4, 259)
	nothing(t, m, follow(3, 258, 9), 10)
	nothing(t, m, follow(3, 259, 9), 10)
	waits(t, m, 4, 259)
	told(t, m, follow(4, 259, 9), 11, 9, 9)
}

func TestHearWrongs(t *testing.T) { // P20.2: nothing changes
	m := slave.New()
	for _, w := range wrongs() {
		nothing(t, m, w, 5)
		idle(t, m)
	}
	nothing(t, m, turn(3, 258), 7)
	for _, w := range wrongs() {
		nothing(t, m, w, 5)
		waits(t, m, 3, 258)
	}
	told(t, m, follow(3, 258, 9), 8, 7, 9)
}

func TestHearAtAnyCount(t *testing.T) { // P20.2: what was counted is told as it is
	m := slave.New()
	for _, count := range []int64{0, 1, -1, 1 << 32, -1 << 32, math.MaxInt64, math.MinInt64} {
		for _, time := range times {
			nothing(t, m, turn(31, 65535), count)
			waits(t, m, 31, 65535)
			told(t, m, follow(31, 65535, time), -count, count, time)
		}
	}
}

func TestNilMatch(t *testing.T) { // P20.2
	var m *slave.Match
	for _, w := range append(rights(), wrongs()...) {
		nothing(t, m, w, 5)
		idle(t, m)
	}
}

func TestApartMatches(t *testing.T) { // P5: each has its own
	one, two := slave.New(), slave.New()
	nothing(t, one, turn(3, 258), 7)
	idle(t, two)
	nothing(t, two, follow(3, 258, 9), 8)
	nothing(t, two, turn(4, 1), 8)
	waits(t, one, 3, 258)
	told(t, one, follow(3, 258, 9), 9, 7, 9)
	waits(t, two, 4, 1)
}

// heard is a word with its count, and whether what was counted there was told.
type heard struct {
	word  slave.Word
	count int64
	used  bool
}

// last is the last turn of all that was heard, if there is one that can be.
func last(all []heard) *heard {
	for i := len(all) - 1; i >= 0; i-- {
		if w := all[i].word; !w.Follow && slave.Right(w) {
			return &all[i]
		}
	}
	return nil
}

func TestEachOnce(t *testing.T) { // P20.4: held against all that was heard
	chance := rand.New(rand.NewSource(57))
	tells := 0
	for range 2000 {
		m := slave.New()
		var all []heard
		for count := range int64(60) {
			w := turn(chance.Intn(2), chance.Intn(2))
			if chance.Intn(2) == 0 {
				w.Follow, w.Time = true, chance.Int63n(1000)
			}
			if chance.Intn(12) == 0 {
				w = wrongs()[chance.Intn(len(wrongs()))]
			}
			ahead := last(all)
			if slave.Right(w) && w.Follow && ahead != nil && !ahead.used && ahead.word.Rank == w.Rank && ahead.word.Round == w.Round {
				told(t, m, w, count, ahead.count, w.Time)
				ahead.used = true
				tells++
			} else {
				nothing(t, m, w, count)
			}
			all = append(all, heard{word: w, count: count})
			if noted := last(all); noted != nil && !noted.used {
				waits(t, m, noted.word.Rank, noted.word.Round)
			} else {
				idle(t, m)
			}
			if t.Failed() {
				return
			}
		}
	}
	if tells < 1000 {
		t.Errorf("just %d were told", tells)
	}
}
