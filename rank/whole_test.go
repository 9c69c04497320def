package rank_test

import (
	"math/rand"
	"slices"
	"testing"

	"bellbuoy/api"
	"bellbuoy/rank"
)

func TestTwoMasters(t *testing.T) { // P21.5: till the better one's next turn is heard
	c := rank.Config{Base: 8, Step: 1, Period: 4}
	for periods := 1; periods <= 4; periods++ {
		f := opened(t, c, 3)
		goes(f, 9)
		masters(t, f, 0) // it told its turn in this tick, and tells it again behind each four
		f.Tick(true)
		masters(t, f, 0, 1)
		next := 4 * periods // the first of its turns that is not lost is told so many ticks behind
		for behind := 2; behind <= next; behind++ {
			f.Tick(behind < next)
			masters(t, f, 0, 1, 2)
		}
		for range 20 {
			f.Tick(false)
			masters(t, f, 0)
		}
	}
}

func TestDemoted(t *testing.T) { // P21.5: a master that was demoted waits as long as one that never was one
	c := rank.Config{Base: 4, Step: 3, Period: 2}
	f := opened(t, c, 2)
	crashes(t, f, 0)
	goes(f, 8)
	masters(t, f, 1)
	restarts(t, f, 0)
	goes(f, 5)
	masters(t, f, 0, 1)
	crashes(t, f, 0)
	masters(t, f, 1)
	goes(f, 1) // it hears what 0 told ahead
	masters(t, f)
	goes(f, 7)
	masters(t, f)
	goes(f, 1)
	masters(t, f, 1)
}

// loser tells in which ticks turns are lost; told are those that would be heard, left how many may be lost still.
type loser func(told, best []int, left int) bool

// losers lose nothing, what they can at once, those of the best one, all but those, and now and then.
func losers(chance *rand.Rand) []loser {
	ofBest := func(told, best []int) bool { return len(best) > 0 && slices.Contains(told, best[0]) }
	return []loser{
		func(told, best []int, left int) bool { return false },
		func(told, best []int, left int) bool { return left > 0 },
		func(told, best []int, left int) bool { return left > 0 && ofBest(told, best) },
		func(told, best []int, left int) bool { return left > 0 && len(told) > 0 && !ofBest(told, best) },
		func(told, best []int, left int) bool { return left > 0 && chance.Intn(3) == 0 },
		func(told, best []int, left int) bool { return left > 0 && ofBest(told, best) && chance.Intn(2) == 0 },
	}
}

// calm lets ticks go by in which nothing crashes, and in each window of them at most so many are lost; it fails unless just the best one is master behind each window.
func calm(t *testing.T, f *rank.Field, m *model, lost, ticks int, loses loser) {
	t.Helper()
	window := rank.Window(m.config, len(m.nodes), lost)
	best := m.best()
	were := make([]bool, 0, ticks)
	left := lost
	for at := range ticks {
		if at >= window && were[at-window] {
			left++
		}
		is := loses(m.told, best, left)
		if is {
			left--
		}
		were = append(were, is)
		same(t, f, m, is)
		if at+1 >= window {
			if got := f.Masters(); !slices.Equal(got, best) {
				t.Fatalf("%v, %d nodes, %d lost: masters %v behind %d ticks, window %d; best %v", m.config, len(m.nodes), lost, got, at+1, window, best)
			}
		}
	}
}

// storm lets ticks go by in which anything crashes, is switched on, and is lost.
func storm(t *testing.T, chance *rand.Rand, f *rank.Field, m *model) {
	t.Helper()
	changes, losses := 2+chance.Intn(20), 1+chance.Intn(5)
	for range chance.Intn(200) {
		for chance.Intn(changes) == 0 {
			change(t, f, m, chance.Intn(len(m.nodes)))
		}
		same(t, f, m, chance.Intn(losses) == 0)
	}
	if len(m.told) > 0 && chance.Intn(2) == 0 { // who told its turn last is off, and heard still
		if k := m.told[0]; m.nodes[k] != nil {
			change(t, f, m, k)
		}
	}
}

// enough is a config whose Base is enough for so many lost turns, often just so.
func enough(chance *rand.Rand, lost int) rank.Config {
	c := rank.Config{Step: 1 + chance.Intn(5), Period: 1 + chance.Intn(7)}
	c.Base = (lost + 2) * c.Period
	if chance.Intn(2) == 0 {
		c.Base += chance.Intn(20)
	}
	return c
}

func TestJustOne(t *testing.T) { // P21.4, and E2
	chance := rand.New(rand.NewSource(63))
	for _, loses := range losers(chance) {
		for range 100 {
			lost, nodes := chance.Intn(5), 1+chance.Intn(8)
			if chance.Intn(9) == 0 {
				nodes = api.MaxNodes
			}
			c := enough(chance, lost)
			f, m := opened(t, c, nodes), newModel(c, nodes)
			for range 3 {
				storm(t, chance, f, m)
				calm(t, f, m, lost, 3*rank.Window(c, nodes, lost), loses)
			}
		}
	}
}

func TestJustOneFromTheBeginning(t *testing.T) { // P21.4: also where nothing was ahead
	chance := rand.New(rand.NewSource(64))
	for _, loses := range losers(chance) {
		for lost := range 5 {
			for _, nodes := range []int{1, 2, 3, api.MaxNodes} {
				c := enough(chance, lost)
				calm(t, opened(t, c, nodes), newModel(c, nodes), lost, 3*rank.Window(c, nodes, lost), loses)
			}
		}
	}
}

func TestJustOneAtTheBounds(t *testing.T) { // P21.4: with the longest waits, and as many lost turns as there may be
	chance := rand.New(rand.NewSource(65))
	for _, c := range []struct {
		config rank.Config
		lost   int
	}{
		{rank.Config{Base: 10000, Step: 1000, Period: 1000}, 8},
		{rank.Config{Base: 2000, Step: 1, Period: 1000}, 0},
		{rank.Config{Base: 102, Step: 1, Period: 1}, 100},
		{rank.Config{Base: 9996, Step: 1000, Period: 98}, 100},
		{rank.Config{Base: 2, Step: 1, Period: 1}, 0},
	} {
		for _, nodes := range []int{2, 5, api.MaxNodes} {
			for _, loses := range losers(chance)[:3] {
				f, m := opened(t, c.config, nodes), newModel(c.config, nodes)
				storm(t, chance, f, m)
				calm(t, f, m, c.lost, rank.Window(c.config, nodes, c.lost)+3*c.config.Base, loses)
			}
		}
	}
}

func TestWindowCounts(t *testing.T) { // P21.4: a node that was switched on last may be the best one, and wait longest
	c := rank.Config{Base: 9, Step: 4, Period: 3}
	for best := range 6 {
		f, m := opened(t, c, 6), newModel(c, 6)
		for at := range 40 {
			same(t, f, m, at%2 == 0)
		}
		for k := range best {
			change(t, f, m, k)
		}
		change(t, f, m, best)
		same(t, f, m, false)
		change(t, f, m, best)
		calm(t, f, m, 1, 3*rank.Window(c, 6, 1), func(told, best []int, left int) bool {
			return left > 0 && slices.Contains(told, best[0])
		})
	}
}
