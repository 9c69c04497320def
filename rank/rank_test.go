package rank_test

import (
	"math"
	"math/rand"
	"slices"
	"testing"

	"bellbuoy/api"
	"bellbuoy/rank"
)

// like is a config like others.
var like = rank.Config{Base: 5, Step: 2, Period: 3}

// rights is configs that can be: each bound, and what lies within.
func rights() []rank.Config {
	var list []rank.Config
	for _, period := range []int{1, 2, 3, 7, 500, 999, 1000} {
		for _, step := range []int{1, 2, 5, 999, 1000} {
			for _, base := range []int{period, period + 1, 2 * period, 3*period + 1, 9999, 10000} {
				list = append(list, rank.Config{Base: base, Step: step, Period: period})
			}
		}
	}
	return list
}

// wrongs is configs that can't be: each part out of its bounds, alone and with others.
func wrongs() []rank.Config {
	list := []rank.Config{{}, {Base: -1, Step: -1, Period: -1}, {Base: 5}, {Step: 2}, {Period: 3}}
	for _, n := range []int{0, -1, -1000, 1001, 1002, 1 << 32, 1<<32 + 3, math.MaxInt, math.MinInt} {
		list = append(list,
			rank.Config{Base: 10000, Step: 2, Period: n},
			rank.Config{Base: n, Step: 2, Period: n},
			rank.Config{Base: 5, Step: n, Period: 3},
			rank.Config{Base: 10000, Step: n, Period: 1000},
			rank.Config{Base: 10000, Step: n, Period: n})
	}
	for _, period := range []int{1, 3, 1000} {
		for _, base := range []int{period - 1, 0, -1, -period, 10001, 10002, 1 << 32, 1<<32 + 5, math.MaxInt, math.MinInt} {
			list = append(list, rank.Config{Base: base, Step: 1, Period: period}, rank.Config{Base: base, Step: 1000, Period: period})
		}
	}
	return list
}

// nobodies are ranks that no node has, miscounts how many nodes no field has.
var (
	nobodies  = []int{-1, -2, -32, math.MinInt, api.MaxNodes, api.MaxNodes + 1, 64, 1 << 32, 1<<32 + 1, math.MaxInt}
	miscounts = []int{0, -1, -32, math.MinInt, api.MaxNodes + 1, 64, 1 << 32, 1<<32 + 1, math.MaxInt}
)

func TestRight(t *testing.T) { // P21.1
	for _, c := range rights() {
		if !rank.Right(c) {
			t.Errorf("%v can't be", c)
		}
	}
	for _, c := range wrongs() {
		if rank.Right(c) {
			t.Errorf("%v can be", c)
		}
	}
}

func TestWait(t *testing.T) { // P21.1
	for _, c := range []struct {
		config     rank.Config
		rank, want int
	}{
		{like, 0, 5},
		{like, 1, 7},
		{like, 31, 67},
		{rank.Config{Base: 1, Step: 1, Period: 1}, 0, 1},
		{rank.Config{Base: 1, Step: 1, Period: 1}, 31, 32},
		{rank.Config{Base: 10000, Step: 1000, Period: 1000}, 31, 41000},
		{rank.Config{Base: 1000, Step: 7, Period: 1000}, 3, 1021},
	} {
		if got := rank.Wait(c.config, c.rank); got != c.want {
			t.Errorf("Wait(%v, %d) = %d; want %d", c.config, c.rank, got, c.want)
		}
	}
	for _, c := range rights() {
		want := c.Base
		for k := range api.MaxNodes {
			if got := rank.Wait(c, k); got != want {
				t.Errorf("Wait(%v, %d) = %d; want %d", c, k, got, want)
			}
			want += c.Step
		}
		for _, k := range nobodies {
			if got := rank.Wait(c, k); got != 0 {
				t.Errorf("Wait(%v, %d) = %d", c, k, got)
			}
		}
	}
	for _, c := range wrongs() {
		for _, k := range append(nobodies, 0, 1, 31) {
			if got := rank.Wait(c, k); got != 0 {
				t.Errorf("Wait(%v, %d) = %d", c, k, got)
			}
		}
	}
}

func TestWindow(t *testing.T) { // P21.1
	for _, c := range []struct {
		config            rank.Config
		nodes, lost, want int
	}{
		{like, 1, 0, 18},
		{like, 3, 0, 22},
		{like, 3, 1, 25},
		{like, 32, 100, 380},
		{rank.Config{Base: 1, Step: 1, Period: 1}, 1, 0, 8},
		{rank.Config{Base: 10000, Step: 1000, Period: 1000}, 32, 100, 144004},
	} {
		if got := rank.Window(c.config, c.nodes, c.lost); got != c.want {
			t.Errorf("Window(%v, %d, %d) = %d; want %d", c.config, c.nodes, c.lost, got, c.want)
		}
	}
	losses := []int{0, 1, 2, 50, 99, 100}
	others := []int{-1, -2, -3, -100, math.MinInt, 101, 102, 1 << 32, 1<<32 + 1, math.MaxInt}
	for _, c := range rights() {
		for nodes := 1; nodes <= api.MaxNodes; nodes++ {
			for _, lost := range losses {
				want := c.Base + (nodes-1)*c.Step + (lost+3)*c.Period + 4
				if got := rank.Window(c, nodes, lost); got != want {
					t.Errorf("Window(%v, %d, %d) = %d; want %d", c, nodes, lost, got, want)
				}
			}
			for _, lost := range others {
				if got := rank.Window(c, nodes, lost); got != 0 {
					t.Errorf("Window(%v, %d, %d) = %d", c, nodes, lost, got)
				}
			}
		}
		for _, nodes := range miscounts {
			for _, lost := range append(others, losses...) {
				if got := rank.Window(c, nodes, lost); got != 0 {
					t.Errorf("Window(%v, %d, %d) = %d", c, nodes, lost, got)
				}
			}
		}
	}
	for _, c := range wrongs() {
		for _, lost := range append(others, losses...) {
			if got := rank.Window(c, 3, lost); got != 0 {
				t.Errorf("Window(%v, 3, %d) = %d", c, lost, got)
			}
		}
	}
}

// made is a node of a rank.
func made(t *testing.T, c rank.Config, k int) *rank.Node {
	t.Helper()
	n, errno := rank.New(c, k)
	if n == nil || errno != api.OK {
		t.Fatalf("New(%v, %d) = %v, %d", c, k, n, errno)
	}
	return n
}

// is fails unless a node is master, or none, and has heard nobody better for so many ticks.
func is(t *testing.T, n *rank.Node, master bool, idle int) {
	t.Helper()
	if n.Master() != master || n.Idle() != idle {
		t.Fatalf("rank %d: master %v, idle %d; want %v, %d", n.Rank(), n.Master(), n.Idle(), master, idle)
	}
}

// tick fails unless a node tells its turn in a tick, or not.
func tick(t *testing.T, n *rank.Node, tells bool, heard ...int) {
	t.Helper()
	if got := n.Tick(heard...); got != tells {
		t.Fatalf("rank %d: Tick(%v) = %v", n.Rank(), heard, got)
	}
}

// mastered is a node that is master, and told its turn in the last tick.
func mastered(t *testing.T, c rank.Config, k int) *rank.Node {
	t.Helper()
	n := made(t, c, k)
	takes(t, n, c)
	return n
}

// takes lets a node, idle for no tick, wait till it is master.
func takes(t *testing.T, n *rank.Node, c rank.Config) {
	t.Helper()
	for idle := range rank.Wait(c, n.Rank()) {
		is(t, n, false, idle)
		tick(t, n, false)
	}
	is(t, n, false, rank.Wait(c, n.Rank()))
	tick(t, n, true)
	is(t, n, true, 0)
}

func TestNew(t *testing.T) { // P21.2
	for _, c := range rights() {
		for k := range api.MaxNodes {
			n := made(t, c, k)
			is(t, n, false, 0)
			if n.Rank() != k {
				t.Errorf("New(%v, %d) has rank %d", c, k, n.Rank())
			}
		}
		for _, k := range nobodies {
			if n, errno := rank.New(c, k); n != nil || errno != api.ErrRange {
				t.Errorf("New(%v, %d) = %v, %d", c, k, n, errno)
			}
		}
	}
	for _, c := range wrongs() {
		for _, k := range append(nobodies, 0, 1, 31) {
			if n, errno := rank.New(c, k); n != nil || errno != api.ErrRange {
				t.Errorf("New(%v, %d) = %v, %d", c, k, n, errno)
			}
		}
	}
}

func TestNilNode(t *testing.T) { // P21.2
	var n *rank.Node
	for _, heard := range [][]int{nil, {}, {0}, {-1}, {31, 0}, nobodies} {
		if n.Tick(heard...) || n.Master() || n.Idle() != 0 || n.Rank() != -1 {
			t.Errorf("Tick(%v): master %v, idle %d, rank %d", heard, n.Master(), n.Idle(), n.Rank())
		}
	}
}

func TestTakes(t *testing.T) { // P21.2: idle at its Wait it waits still, and the tick behind it is master
	for _, c := range []rank.Config{like, {Base: 1, Step: 1, Period: 1}, {Base: 3, Step: 1, Period: 3}, {Base: 100, Step: 9, Period: 10}, {Base: 1000, Step: 1000, Period: 1000}, {Base: 10000, Step: 1000, Period: 1}} {
		for _, k := range []int{0, 1, 2, 17, 31} {
			mastered(t, c, k)
		}
	}
}

func TestTellsAgain(t *testing.T) { // P21.2: a master tells its turn behind each Period ticks, and in none between
	for _, c := range []rank.Config{like, {Base: 1, Step: 1, Period: 1}, {Base: 5, Step: 1, Period: 2}, {Base: 5, Step: 1000, Period: 5}, {Base: 1000, Step: 1, Period: 1000}} {
		n := mastered(t, c, 2)
		for range 5 {
			for range c.Period - 1 {
				tick(t, n, false)
				is(t, n, true, 0)
			}
			tick(t, n, true)
			is(t, n, true, 0)
		}
	}
}

// worse is what a node of rank 3 hears without leaving the place to anybody, better what it hears when it does.
var (
	worse  = [][]int{nil, {}, {3}, {4}, {31}, {32}, {math.MaxInt}, {-1}, {-2}, {math.MinInt}, {3, 3}, {31, 4, 3}, {-1, 3, -3, 4}, {1 << 32, 1<<32 + 1}, {4, math.MinInt, -4}}
	better = [][]int{{0}, {1}, {2}, {0, 1, 2}, {2, 2}, {2, 3}, {3, 2}, {31, 4, 2}, {0, 31, 31}, {-1, 0}, {0, -1}, {2, -5, 7}, {-1, -1, 4, 1, 3, -1}, {math.MaxInt, math.MinInt, 2}}
)

func TestHeardByOneThatWaits(t *testing.T) { // P21.2
	for _, heard := range worse {
		n := made(t, like, 3)
		for idle := range 11 {
			is(t, n, false, idle)
			tick(t, n, false, heard...)
		}
		is(t, n, false, 11)
		tick(t, n, true, heard...)
		is(t, n, true, 0)
	}
	for _, heard := range better {
		for ahead := range 12 {
			n := made(t, like, 3)
			for range ahead {
				tick(t, n, false)
			}
			is(t, n, false, ahead)
			tick(t, n, false, heard...)
			is(t, n, false, 0)
			tick(t, n, false, heard...)
			is(t, n, false, 0)
			takes(t, n, like)
		}
	}
}

func TestHeardByMaster(t *testing.T) { // P21.2, P21.5
	for _, heard := range worse {
		n := mastered(t, like, 3)
		for range 4 {
			for _, tells := range []bool{false, false, true} {
				tick(t, n, tells, heard...)
				is(t, n, true, 0)
			}
		}
	}
	for _, heard := range better {
		for ahead := range 7 { // ahead of a turn that is due, instead of one, and behind it
			n := mastered(t, like, 3)
			for at := range ahead {
				tick(t, n, at%3 == 2)
			}
			tick(t, n, false, heard...)
			is(t, n, false, 0)
			takes(t, n, like)
			for at := range 6 { // anew from the turn that it told then
				tick(t, n, at%3 == 2)
			}
		}
	}
}

func TestBestHearsNobody(t *testing.T) { // P21.2: nobody is better than rank 0
	n := made(t, like, 0)
	for range 6 {
		n.Tick(0, 1, 31, -1, math.MinInt, math.MaxInt)
	}
	is(t, n, true, 0)
	tick(t, n, false, 0, -1, 1)
	is(t, n, true, 0)
}

func TestHeardStays(t *testing.T) { // P3: what was heard stays as it is, spare room behind its end too
	room := []int{4, 2, -1, 9, 9, 9}
	for _, n := range []*rank.Node{made(t, like, 0), made(t, like, 3), mastered(t, like, 3), nil} {
		n.Tick(room[:3]...)
		n.Tick(room[:0]...)
		if !slices.Equal(room, []int{4, 2, -1, 9, 9, 9}) {
			t.Fatalf("what was heard is %v", room)
		}
	}
}

func TestApart(t *testing.T) { // P5: nodes have nothing in common
	a, b := made(t, like, 1), made(t, like, 1)
	for range 7 {
		a.Tick()
	}
	is(t, b, false, 0)
	takes(t, b, like)
	is(t, a, false, 7)
}

// history is a node as chapter 21 says it, reckoned from when it heard somebody better, or was switched on.
type history struct {
	config rank.Config
	rank   int
	alone  int // so many ticks ago
}

// hear is a tick; told whether it tells its turn in it.
func (h *history) hear(heard []int) bool {
	h.alone++
	for _, k := range heard {
		if k >= 0 && k < h.rank {
			h.alone = 0
		}
	}
	return h.master() && (h.alone-h.wait()-1)%h.config.Period == 0
}

func (h *history) wait() int    { return h.config.Base + h.rank*h.config.Step }
func (h *history) master() bool { return h.alone > h.wait() }

func (h *history) idle() int {
	if h.master() {
		return 0
	}
	return h.alone
}

// anyConfig is one that can be, most of them short.
func anyConfig(chance *rand.Rand) rank.Config {
	c := rank.Config{Step: 1 + chance.Intn(4), Period: 1 + chance.Intn(6)}
	c.Base = c.Period + chance.Intn(20)
	return c
}

// anyHeard is ranks such as are heard now and then, and others.
func anyHeard(chance *rand.Rand) []int {
	heard := make([]int, chance.Intn(4))
	for at := range heard {
		heard[at] = chance.Intn(40) - 4
	}
	if chance.Intn(3) > 0 {
		return nil
	}
	return heard
}

func TestAnyTicks(t *testing.T) { // P21.2, P21.6
	chance := rand.New(rand.NewSource(61))
	masters, told := 0, 0
	for range 300 {
		c, k := anyConfig(chance), chance.Intn(10)
		n, h := made(t, c, k), &history{config: c, rank: k}
		quiet := 0
		for range 300 {
			heard := anyHeard(chance)
			if quiet == 0 && chance.Intn(60) == 0 {
				quiet = chance.Intn(3 * h.wait())
			}
			if quiet > 0 {
				quiet--
				heard = []int{k, k + 1, -1}
			}
			want := h.hear(heard)
			tick(t, n, want, heard...)
			is(t, n, h.master(), h.idle())
			if n.Idle() > rank.Wait(c, k) || n.Rank() != k {
				t.Fatalf("idle %d of rank %d", n.Idle(), n.Rank())
			}
			if h.master() {
				masters++
			}
			if want {
				told++
			}
		}
	}
	if masters < 5000 || told < 1000 {
		t.Errorf("just %d ticks of masters, and %d turns", masters, told)
	}
}
