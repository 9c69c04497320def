package rank_test

import (
	"math"
	"math/rand"
	"slices"
	"testing"

	"bellbuoy/api"
	"bellbuoy/rank"
)

// opened is a field of so many nodes.
func opened(t *testing.T, c rank.Config, nodes int) *rank.Field {
	t.Helper()
	f, errno := rank.Open(c, nodes)
	if f == nil || errno != api.OK {
		t.Fatalf("Open(%v, %d) = %v, %d", c, nodes, f, errno)
	}
	return f
}

// goes lets so many ticks go by, in which nothing is lost.
func goes(f *rank.Field, ticks int) {
	for range ticks {
		f.Tick(false)
	}
}

// masters fails unless just these are.
func masters(t *testing.T, f *rank.Field, want ...int) {
	t.Helper()
	if got := f.Masters(); !slices.Equal(got, want) {
		t.Fatalf("masters %v; want %v", got, want)
	}
}

// crashes fails unless a node is switched off, restarts unless one is switched on.
func crashes(t *testing.T, f *rank.Field, k int) {
	t.Helper()
	if errno := f.Crash(k); errno != api.OK || f.Alive(k) {
		t.Fatalf("Crash(%d) = %d; alive %v", k, errno, f.Alive(k))
	}
}

func restarts(t *testing.T, f *rank.Field, k int) {
	t.Helper()
	if errno := f.Restart(k); errno != api.OK || !f.Alive(k) {
		t.Fatalf("Restart(%d) = %d; alive %v", k, errno, f.Alive(k))
	}
}

// nowhere are numbers of nodes that a field of so many has not.
func nowhere(n int) []int {
	return []int{-1, -2, n, n + 1, api.MaxNodes, 1 << 32, 1<<32 + 1, math.MinInt, math.MaxInt}
}

func TestOpen(t *testing.T) { // P21.3
	for _, c := range append(rights(), like) {
		for _, nodes := range []int{1, 2, 3, 31, api.MaxNodes} {
			f := opened(t, c, nodes)
			masters(t, f)
			for k := range nodes {
				if !f.Alive(k) {
					t.Errorf("node %d of %d is off", k, nodes)
				}
			}
			for _, k := range nowhere(nodes) {
				if f.Alive(k) {
					t.Errorf("node %d of %d is on", k, nodes)
				}
			}
		}
		for _, nodes := range miscounts {
			if f, errno := rank.Open(c, nodes); f != nil || errno != api.ErrRange {
				t.Errorf("Open(%v, %d) = %v, %d", c, nodes, f, errno)
			}
		}
	}
	for _, c := range wrongs() {
		for _, nodes := range append(miscounts, 1, 3, api.MaxNodes) {
			if f, errno := rank.Open(c, nodes); f != nil || errno != api.ErrRange {
				t.Errorf("Open(%v, %d) = %v, %d", c, nodes, f, errno)
			}
		}
	}
}

func TestNilField(t *testing.T) { // P21.3
	var f *rank.Field
	for _, k := range append(nowhere(0), 0, 1, 31) {
		f.Tick(false)
		f.Tick(true)
		if f.Crash(k) != api.ErrNone || f.Restart(k) != api.ErrNone || f.Alive(k) || len(f.Masters()) != 0 {
			t.Errorf("Crash(%d) = %d, Restart(%d) = %d, alive %v, masters %v", k, f.Crash(k), k, f.Restart(k), f.Alive(k), f.Masters())
		}
	}
}

func TestNoSuchNode(t *testing.T) { // P21.3
	for _, nodes := range []int{1, 2, api.MaxNodes} {
		f := opened(t, like, nodes)
		for _, k := range nowhere(nodes) {
			if f.Crash(k) != api.ErrNone || f.Restart(k) != api.ErrNone {
				t.Errorf("Crash(%d) = %d, Restart(%d) = %d", k, f.Crash(k), k, f.Restart(k))
			}
		}
		goes(f, 6)
		masters(t, f, 0)
	}
}

func TestCrashAndRestart(t *testing.T) { // P21.3: off is off once, and on is on
	f := opened(t, like, 3)
	for k := range 3 {
		if errno := f.Restart(k); errno != api.ErrState || !f.Alive(k) {
			t.Errorf("Restart(%d) = %d of one that is on", k, errno)
		}
		crashes(t, f, k)
		if errno := f.Crash(k); errno != api.ErrState || f.Alive(k) {
			t.Errorf("Crash(%d) = %d of one that is off", k, errno)
		}
	}
	goes(f, 100)
	masters(t, f)
	restarts(t, f, 1)
	if f.Alive(0) || f.Alive(2) || f.Restart(1) != api.ErrState || f.Crash(0) != api.ErrState {
		t.Error("others are on, or one that is on is switched on")
	}
	goes(f, 7)
	masters(t, f)
	goes(f, 1)
	masters(t, f, 1)
}

func TestOneAlone(t *testing.T) { // P21.3: behind Base and 1 ticks a node alone is master, whatever is lost
	for _, c := range []rank.Config{like, {Base: 1, Step: 1, Period: 1}, {Base: 1000, Step: 1, Period: 1000}, {Base: 10000, Step: 1000, Period: 1}} {
		for _, lost := range []bool{false, true} {
			f := opened(t, c, 1)
			for range c.Base {
				f.Tick(lost)
				masters(t, f)
			}
			for range 3*c.Period + 3 {
				f.Tick(lost)
				masters(t, f, 0)
			}
		}
	}
}

func TestFirstIsMaster(t *testing.T) { // P21.3, and E2: without crashes just the first one ever is
	for _, c := range []rank.Config{like, {Base: 1, Step: 1, Period: 1}, {Base: 2, Step: 1, Period: 1}, {Base: 20, Step: 3, Period: 10}} {
		for _, nodes := range []int{1, 2, 3, api.MaxNodes} {
			f := opened(t, c, nodes)
			goes(f, c.Base)
			masters(t, f)
			for range 10 * (c.Base + nodes*c.Step) {
				f.Tick(false)
				masters(t, f, 0)
			}
		}
	}
}

func TestOthersHearATickLater(t *testing.T) { // P21.3: what is told is heard in the next tick, not in that one
	f := opened(t, rank.Config{Base: 2, Step: 1, Period: 2}, 2)
	goes(f, 3)
	masters(t, f, 0) // the other one has waited 3 ticks, its Wait
	f.Tick(true)     // it does not hear the turn
	masters(t, f, 0, 1)
	f.Tick(false) // nothing was told in the tick ahead
	masters(t, f, 0, 1)
	f.Tick(false) // what is told again in the tick ahead is heard now
	masters(t, f, 0)
}

func TestMasterCrashes(t *testing.T) { // P21.3: the next one takes its place, and gives it back
	f := opened(t, like, 3)
	goes(f, 6)
	masters(t, f, 0)
	crashes(t, f, 0)
	masters(t, f)
	f.Tick(false) // what it told in the tick ahead is heard still
	for range 7 {
		f.Tick(false)
		masters(t, f)
	}
	goes(f, 1)
	masters(t, f, 1)
	restarts(t, f, 0)
	masters(t, f, 1)
	goes(f, 5)
	masters(t, f, 1)
	goes(f, 1)
	masters(t, f, 0, 1)
	goes(f, 1)
	masters(t, f, 0)
}

func TestToldAheadOfACrash(t *testing.T) { // P21.3: it is heard, or lost, and heard no more than once
	for _, lost := range []bool{false, true} {
		f := opened(t, like, 2)
		goes(f, 6) // 0 tells its turn; 1 has waited 6 ticks
		crashes(t, f, 0)
		f.Tick(lost)
		masters(t, f)
		f.Tick(false)
		if lost {
			masters(t, f, 1)
			continue
		}
		masters(t, f)
		goes(f, 6)
		masters(t, f)
		goes(f, 1)
		masters(t, f, 1)
	}
}

func TestToldAheadOfARestart(t *testing.T) { // P21.3: what a node told is no reason for it to wait longer when it is switched on again
	f := opened(t, like, 3)
	goes(f, 6)
	crashes(t, f, 0)
	restarts(t, f, 0)
	masters(t, f)
	goes(f, 5)
	masters(t, f)
	goes(f, 1)
	masters(t, f, 0)
}

func TestOthersCrash(t *testing.T) { // P21.3: the master stays
	f := opened(t, like, 4)
	goes(f, 6)
	for _, k := range []int{3, 1, 2} {
		crashes(t, f, k)
		goes(f, 10)
		masters(t, f, 0)
	}
	for _, k := range []int{2, 1, 3} {
		restarts(t, f, k)
		goes(f, 10)
		masters(t, f, 0)
	}
}

func TestAllCrash(t *testing.T) { // P21.3: and the best one of those that are switched on again is master
	f := opened(t, like, 4)
	goes(f, 6)
	for k := range 4 {
		crashes(t, f, k)
	}
	goes(f, 50)
	masters(t, f)
	restarts(t, f, 3)
	restarts(t, f, 2)
	goes(f, 9)
	masters(t, f)
	goes(f, 1)
	masters(t, f, 2)
	goes(f, 50)
	masters(t, f, 2)
}

func TestMastersAreTheCallers(t *testing.T) { // P2, P3: a list is written to no more
	f := opened(t, like, 3)
	if got := f.Masters(); len(got) != 0 {
		t.Errorf("masters %v", got)
	}
	goes(f, 6)
	first := f.Masters()
	first[0] = 7
	masters(t, f, 0)
	kept := f.Masters()
	crashes(t, f, 0)
	goes(f, 9)
	if !slices.Equal(kept, []int{0}) || !slices.Equal(first, []int{7}) {
		t.Errorf("%v and %v were written to", first, kept)
	}
	masters(t, f, 1)
}

// model is a field as chapter 21 says it; nil is a node that is off.
type model struct {
	config rank.Config
	nodes  []*history
	told   []int
}

func newModel(c rank.Config, nodes int) *model {
	m := &model{config: c, nodes: make([]*history, nodes)}
	for k := range m.nodes {
		m.restart(k)
	}
	return m
}

func (m *model) restart(k int) { m.nodes[k] = &history{config: m.config, rank: k} }

func (m *model) tick(lost bool) {
	var told []int
	for k, h := range m.nodes {
		if h == nil {
			continue
		}
		var heard []int
		for _, other := range m.told {
			if other != k && !lost {
				heard = append(heard, other)
			}
		}
		if h.hear(heard) {
			told = append(told, k)
		}
	}
	m.told = told
}

func (m *model) masters() []int {
	var list []int
	for k, h := range m.nodes {
		if h != nil && h.master() {
			list = append(list, k)
		}
	}
	return list
}

// best is the least number of a node that is on; as a list: none, if all are off.
func (m *model) best() []int {
	for k, h := range m.nodes {
		if h != nil {
			return []int{k}
		}
	}
	return nil
}

// change switches some node, in both, to the other way.
func change(t *testing.T, f *rank.Field, m *model, k int) {
	t.Helper()
	if m.nodes[k] != nil {
		crashes(t, f, k)
		m.nodes[k] = nil
		return
	}
	restarts(t, f, k)
	m.restart(k)
}

// same lets a tick go by in both, and fails unless they answer alike.
func same(t *testing.T, f *rank.Field, m *model, lost bool) {
	t.Helper()
	f.Tick(lost)
	m.tick(lost)
	masters(t, f, m.masters()...)
}

func TestAnyField(t *testing.T) { // P21.3, P21.5, P21.6
	chance := rand.New(rand.NewSource(62))
	several := 0
	for range 300 {
		c, nodes := anyConfig(chance), 1+chance.Intn(9)
		f, m := opened(t, c, nodes), newModel(c, nodes)
		losses, changes := 1+chance.Intn(10), 1+chance.Intn(60)
		for range 400 {
			if chance.Intn(changes) == 0 {
				change(t, f, m, chance.Intn(nodes))
			}
			told, lost := m.told, chance.Intn(losses) == 0
			same(t, f, m, lost)
			for k, h := range m.nodes {
				if f.Alive(k) != (h != nil) {
					t.Fatalf("node %d: alive %v", k, f.Alive(k))
				}
			}
			now := f.Masters()
			if len(now) > 1 {
				several++
			}
			for _, k := range now { // who is master has not just heard a better one
				if !lost && len(told) > 0 && slices.Min(told) < k {
					t.Fatalf("%d is master, having heard %v", k, told)
				}
			}
		}
	}
	if several < 1000 {
		t.Errorf("just %d ticks with several masters", several)
	}
}
