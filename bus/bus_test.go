package bus

import (
	"math"
	"math/rand"
	"slices"
	"testing"

	"bellbuoy/api"
	"bellbuoy/ident"
	"bellbuoy/mac"
	"bellbuoy/wire"
)

func short(n uint32) api.Ident { return api.Ident{N: n} }
func long(n uint32) api.Ident  { return api.Ident{Ext: true, N: n} }

// told is a frame of these bytes, asked one that asks for so many.
func told(id api.Ident, data ...byte) api.Frame {
	f := api.Frame{Id: id, Len: len(data)}
	copy(f.Data[:], data)
	return f
}

func asked(id api.Ident, length int) api.Frame {
	return api.Frame{Id: id, Remote: true, Len: length}
}

// plain is a frame like others.
var plain = told(short(0x123), 10)

// anyFrame is any frame that can be, most of them short.
func anyFrame(chance *rand.Rand) api.Frame {
	f := api.Frame{Id: short(chance.Uint32() >> 21), Remote: chance.Intn(4) == 0, Len: chance.Intn(9)}
	if chance.Intn(2) == 0 {
		f.Id = long(chance.Uint32() >> 3)
	}
	if chance.Intn(2) == 0 {
		f.Len = chance.Intn(2)
	}
	if !f.Remote {
		chance.Read(f.Data[:f.Len])
	}
	return f
}

// unlike is n frames that ask unlike.
func unlike(chance *rand.Rand, n int) []api.Frame {
	list := make([]api.Frame, 0, n)
	keys := map[uint32]struct{}{}
	for len(list) < n {
		f := anyFrame(chance)
		key := ident.Key(f.Id, f.Remote)
		if _, ok := keys[key]; !ok {
			keys[key] = struct{}{}
			list = append(list, f)
		}
	}
	return list
}

// made is a bus of so many nodes.
func made(t *testing.T, n int) *Bus {
	t.Helper()
	b, errno := New(n)
	if b == nil || errno != api.OK {
		t.Fatalf("New(%d) = %v, %d", n, b, errno)
	}
	return b
}

// given is a bus of as many nodes as there are frames, each with its own.
func given(t *testing.T, list []api.Frame) *Bus {
	t.Helper()
	b := made(t, len(list))
	for k, f := range list {
		gives(t, b, k, f)
	}
	return b
}

func gives(t *testing.T, b *Bus, k int, f api.Frame) {
	t.Helper()
	if errno := b.Ask(k, f); errno != api.OK {
		t.Fatalf("Ask(%d, %v) = %d", k, f, errno)
	}
}

// goes has so many bits go by, and answers what happened.
func goes(b *Bus, bits int) []api.Note {
	var all []api.Note
	for range bits {
		_, notes := b.Step()
		all = append(all, notes...)
	}
	return all
}

// nowhere are numbers of nodes that a bus of so many has not.
func nowhere(n int) []int {
	return []int{-1, -2, n, n + 1, api.MaxNodes, 1 << 32, math.MinInt, math.MaxInt}
}

func TestNew(t *testing.T) { // P12.1, P12.2
	for _, n := range []int{-1, 0, api.MaxNodes + 1, 100, 1 << 32, math.MinInt, math.MaxInt} {
		if b, errno := New(n); b != nil || errno != api.ErrRange {
			t.Errorf("New(%d) = %v, %d", n, b, errno)
		}
	}
	for n := 1; n <= api.MaxNodes; n++ {
		b := made(t, n)
		if b.Nodes() != n || b.Time() != 0 {
			t.Errorf("New(%d) has %d nodes, at %d", n, b.Nodes(), b.Time())
		}
		for k := range n {
			newly(t, b, k)
		}
	}
}

// newly fails unless a node is as one that was just switched on.
func newly(t *testing.T, b *Bus, k int) {
	t.Helper()
	if f, ok := b.Asked(k); !b.Alive(k) || b.Phase(k) != api.Waiting || b.Counts(k) != (api.Counts{}) || f != (api.Frame{}) || ok {
		t.Errorf("node %d: alive %v, phase %d, %v, %v, %v", k, b.Alive(k), b.Phase(k), b.Counts(k), f, ok)
	}
}

// gone fails unless there is no such node, or it is off.
func gone(t *testing.T, b *Bus, k int) {
	t.Helper()
	for _, f := range []api.Frame{plain, told(short(2048)), {Len: 9}} {
		if errno := b.Ask(k, f); errno != api.ErrNone {
			t.Errorf("Ask(%d, %v) = %d; want %d", k, f, errno, api.ErrNone)
		}
	}
	if f, ok := b.Asked(k); b.Drop(k) || b.Alive(k) || b.Phase(k) != api.Waiting || b.Counts(k) != (api.Counts{}) || f != (api.Frame{}) || ok {
		t.Errorf("node %d: alive %v, phase %d, %v, %v, %v", k, b.Alive(k), b.Phase(k), b.Counts(k), f, ok)
	}
}

func TestNoSuchNode(t *testing.T) { // P12.1, P12.2
	for _, n := range []int{1, 2, api.MaxNodes} {
		b := made(t, n)
		for _, k := range nowhere(n) {
			gone(t, b, k)
			if b.Crash(k) != api.ErrNone || b.Restart(k) != api.ErrNone {
				t.Errorf("Crash(%d) = %d, Restart(%d) = %d", k, b.Crash(k), k, b.Restart(k))
			}
		}
		for k := range n {
			newly(t, b, k)
		}
	}
}

func TestNilBus(t *testing.T) { // P12.2
	var b *Bus
	for _, k := range append(nowhere(0), 0, 1) {
		gone(t, b, k)
		if b.Crash(k) != api.ErrNone || b.Restart(k) != api.ErrNone {
			t.Errorf("Crash(%d) = %d, Restart(%d) = %d", k, b.Crash(k), k, b.Restart(k))
		}
		if bit, notes := b.Step(k, 0, k); bit != 1 || len(notes) != 0 {
			t.Errorf("Step() = %d, %v", bit, notes)
		}
	}
	if bit, notes := b.Step(); bit != 1 || len(notes) != 0 || b.Nodes() != 0 || b.Time() != 0 {
		t.Errorf("Step() = %d, %v; %d nodes, at %d", bit, notes, b.Nodes(), b.Time())
	}
}

func TestAskAndDrop(t *testing.T) { // P12.1
	b := made(t, 3)
	for _, c := range []struct {
		f    api.Frame
		want api.Errno
	}{
		{told(short(2048)), api.ErrRange},
		{api.Frame{Len: 9}, api.ErrLen},
		{api.Frame{Data: [8]byte{1}}, api.ErrForm},
		{plain, api.OK},
		{plain, api.ErrState},
		{told(short(2048)), api.ErrState},
	} {
		if errno := b.Ask(1, c.f); errno != c.want {
			t.Errorf("Ask(1, %v) = %d; want %d", c.f, errno, c.want)
		}
	}
	if f, ok := b.Asked(1); f != plain || !ok {
		t.Errorf("Asked(1) = %v, %v", f, ok)
	}
	newly(t, b, 0)
	newly(t, b, 2)
	if b.Drop(0) || !b.Drop(1) || b.Drop(1) {
		t.Error("a frame was taken away that is not there, or stays")
	}
	newly(t, b, 1)
	gives(t, b, 1, plain)
	goes(b, 12)
	if b.Phase(1) != api.Sending || b.Drop(1) {
		t.Error("a frame was taken away while it is sent")
	}
	goes(b, wire.Long(plain))
	if f, ok := b.Asked(1); f != (api.Frame{}) || ok || b.Drop(1) {
		t.Errorf("behind it: Asked(1) = %v, %v", f, ok)
	}
}

func TestCrashAndRestart(t *testing.T) { // P12.1, P12.2
	b := given(t, []api.Frame{told(short(1)), told(short(2)), told(short(3))})
	goes(b, 12+wire.Long(told(short(1)))+5) // the first one is sent, and the others ask for the bus again
	for k := range 3 {
		if b.Restart(k) != api.ErrState {
			t.Errorf("Restart(%d) = %d of one that is on", k, b.Restart(k))
		}
		if b.Phase(k) == api.Waiting {
			t.Errorf("node %d is as new behind Restart", k)
		}
		if errno := b.Crash(k); errno != api.OK {
			t.Errorf("Crash(%d) = %d", k, errno)
		}
		if b.Crash(k) != api.ErrState {
			t.Errorf("Crash(%d) = %d of one that is off", k, b.Crash(k))
		}
		gone(t, b, k)
	}
	now := b.Time()
	for range 20 {
		if bit, notes := b.Step(0, 1, 2); bit != 1 || len(notes) != 0 {
			t.Errorf("all are off: %d, %v", bit, notes)
		}
	}
	if b.Time() != now+20 || b.Nodes() != 3 {
		t.Errorf("all are off: %d nodes, at %d", b.Nodes(), b.Time())
	}
	if errno := b.Restart(1); errno != api.OK {
		t.Errorf("Restart(1) = %d", errno)
	}
	newly(t, b, 1)
	gone(t, b, 0)
	gone(t, b, 2)
	goes(b, 10)
	if b.Phase(1) != api.Waiting {
		t.Errorf("phase %d behind ten bits", b.Phase(1))
	}
	if notes := goes(b, 1); len(notes) != 0 || b.Phase(1) != api.Ready {
		t.Errorf("%v, phase %d behind eleven bits", notes, b.Phase(1))
	}
}

func TestCountsAreGoneWithACrash(t *testing.T) { // P12.1
	b := made(t, 2)
	goes(b, 11)
	b.Step(1)
	goes(b, 14)
	if b.Counts(0) == (api.Counts{}) || b.Counts(1) == (api.Counts{}) {
		t.Fatalf("a flip costs nothing: %v, %v", b.Counts(0), b.Counts(1))
	}
	kept := b.Counts(0)
	b.Crash(1)
	b.Restart(1)
	newly(t, b, 1)
	if b.Counts(0) != kept {
		t.Errorf("another one's counts are %v; want %v", b.Counts(0), kept)
	}
}

func TestWire(t *testing.T) { // P12.2: 0, if anybody that is on puts 0 there
	for _, n := range []int{1, 2, 3, api.MaxNodes} {
		for k := range n {
			b := made(t, n)
			for at := range 11 {
				if bit, notes := b.Step(); bit != 1 || len(notes) != 0 || b.Time() != at+1 {
					t.Fatalf("%d nodes, at %d: %d, %v", n, at, bit, notes)
				}
			}
			gives(t, b, k, plain)
			bit, notes := b.Step()
			if want := []api.Note{{Node: k, Happen: api.Happen{Began: true}}}; bit != 0 || !slices.Equal(notes, want) {
				t.Fatalf("node %d of %d: %d, %v", k, n, bit, notes)
			}
			b.Crash(k) // what it would put there is gone
			if bit, _ := b.Step(); bit != 1 {
				t.Fatalf("node %d of %d is off, and puts 0 there", k, n)
			}
		}
	}
}

func TestAlone(t *testing.T) { // P12.2, and example 2 of the whole: behind sixteen tries it is passive
	b := given(t, []api.Frame{plain})
	tries := 0
	for range 5000 {
		_, notes := b.Step()
		for _, x := range notes {
			if x.Happen.Bad == api.AckBad {
				tries++
				if want := (api.Counts{Tx: min(8*tries, 128)}); b.Counts(0) != want {
					t.Fatalf("try %d: %v", tries, b.Counts(0))
				}
			} else if x != (api.Note{Happen: api.Happen{Began: true}}) {
				t.Fatalf("alone: %v", x)
			}
		}
	}
	if f, ok := b.Asked(0); tries < 40 || f != plain || !ok {
		t.Errorf("%d tries, then %v, %v", tries, f, ok)
	}
}

func TestTwo(t *testing.T) { // P12.2, as P11.5 has it
	chance := rand.New(rand.NewSource(23))
	for range 100 {
		f := anyFrame(chance)
		k := chance.Intn(2)
		b := made(t, 2)
		gives(t, b, k, f)
		sent := wire.Encode(f)
		for at := range 11 + len(sent) + 20 {
			bit, notes := b.Step()
			want := byte(1)
			if n := at - 11; n >= 0 && n < len(sent) && n != len(sent)-9 {
				want = sent[n]
			} else if n == len(sent)-9 {
				want = 0
			}
			var happens []api.Note
			switch at {
			case 11:
				happens = []api.Note{{Node: k, Happen: api.Happen{Began: true}}}
			case 11 + len(sent) - 2:
				happens = []api.Note{{Node: 1 - k, Happen: api.Happen{Got: true, Frame: f}}}
			case 11 + len(sent) - 1:
				happens = []api.Note{{Node: k, Happen: api.Happen{Sent: true, Frame: f}}}
			}
			if bit != want || !slices.Equal(notes, happens) {
				t.Fatalf("%v at %d: %d, %v; want %d, %v", f, at, bit, notes, want, happens)
			}
		}
	}
}

// rack is nodes on one wire, as the chapter says it, beside a bus.
type rack []*mac.Mac

func (r rack) step(flips []int) (byte, []api.Note) {
	bit := byte(1)
	for _, m := range r {
		if m != nil && m.Out() == 0 {
			bit = 0
		}
	}
	var notes []api.Note
	for k, m := range r {
		if m == nil {
			continue
		}
		heard := bit
		if slices.Contains(flips, k) {
			heard = 1 - bit
		}
		if h := m.Step(heard); h != (api.Happen{}) {
			notes = append(notes, api.Note{Node: k, Happen: h})
		}
	}
	return bit, notes
}

// alike fails unless a bus tells of its nodes what the rack's tell.
func alike(t *testing.T, b *Bus, r rack) {
	t.Helper()
	for k, m := range r {
		f, ok := b.Asked(k)
		g, has := m.Asked()
		if b.Alive(k) != (m != nil) || b.Phase(k) != m.Phase() || b.Counts(k) != m.Counts() || f != g || ok != has {
			t.Fatalf("node %d: phase %d, %v, %v, %v; want %d, %v, %v, %v", k, b.Phase(k), b.Counts(k), f, ok, m.Phase(), m.Counts(), g, has)
		}
	}
}

// stir does something to a node of both, now and then.
func stir(t *testing.T, chance *rand.Rand, b *Bus, r rack) {
	t.Helper()
	k := chance.Intn(len(r)+2) - 1
	there := k >= 0 && k < len(r)
	on := there && r[k] != nil
	switch chance.Intn(120) {
	case 0, 1, 2:
		f, want := anyFrame(chance), api.ErrNone
		f.Len -= chance.Intn(2)
		if on {
			want = r[k].Ask(f)
		}
		if errno := b.Ask(k, f); errno != want {
			t.Fatalf("Ask(%d, %v) = %d; want %d", k, f, errno, want)
		}
	case 3:
		want := on && r[k].Drop()
		if b.Drop(k) != want {
			t.Fatalf("Drop(%d); want %v", k, want)
		}
	case 4:
		want := map[bool]api.Errno{true: api.ErrState, false: api.ErrNone}[there]
		if on {
			r[k], want = nil, api.OK
		}
		if errno := b.Crash(k); errno != want {
			t.Fatalf("Crash(%d) = %d; want %d", k, errno, want)
		}
	case 5, 6:
		want := map[bool]api.Errno{true: api.ErrState, false: api.ErrNone}[there]
		if there && !on {
			r[k], want = mac.New(), api.OK
		}
		if errno := b.Restart(k); errno != want {
			t.Fatalf("Restart(%d) = %d; want %d", k, errno, want)
		}
	}
}

func TestAsItsNodes(t *testing.T) { // P12.1, P12.2: whatever is given, taken away, flipped, crashes, and is switched on
	chance := rand.New(rand.NewSource(24))
	for round := range 300 {
		n := 1 + chance.Intn(6)
		noise := []int{3, 20, 200, 2000}[round%4]
		b, r := made(t, n), make(rack, n)
		for k := range r {
			r[k] = mac.New()
		}
		for now := range 2000 {
			stir(t, chance, b, r)
			var flips []int
			for chance.Intn(noise) == 0 {
				flips = append(flips, chance.Intn(n+4)-2)
			}
			kept := slices.Clone(flips)
			bit, notes := b.Step(flips...)
			want, happens := r.step(kept)
			if bit != want || !slices.Equal(notes, happens) || b.Time() != now+1 || b.Nodes() != n {
				t.Fatalf("at %d, flipped %v: %d, %v; want %d, %v", now, kept, bit, notes, want, happens)
			}
			if !slices.Equal(flips, kept) {
				t.Fatalf("flips %v became %v", kept, flips)
			}
			alike(t, b, r)
		}
	}
}

func TestFlips(t *testing.T) { // P12.2: several, one that is named twice, and such as are none
	heard := func(flips ...int) []api.Phase {
		b := made(t, 4)
		b.Crash(3)
		goes(b, 11)
		if bit, notes := b.Step(flips...); bit != 1 || len(notes) != 0 {
			t.Errorf("flipped %v: %d, %v", flips, bit, notes)
		}
		return []api.Phase{b.Phase(0), b.Phase(1), b.Phase(2), b.Phase(3)}
	}
	r, h, w := api.Ready, api.Hearing, api.Waiting
	for _, c := range []struct {
		flips []int
		want  []api.Phase
	}{
		{nil, []api.Phase{r, r, r, w}},
		{[]int{0}, []api.Phase{h, r, r, w}},
		{[]int{2}, []api.Phase{r, r, h, w}},
		{[]int{1, 1}, []api.Phase{r, h, r, w}},
		{[]int{1, 0, 1}, []api.Phase{h, h, r, w}},
		{[]int{1, 1, 1, 1}, []api.Phase{r, h, r, w}},
		{[]int{2, 1, 0}, []api.Phase{h, h, h, w}},
		{[]int{3}, []api.Phase{r, r, r, w}},
		{[]int{3, 0, 3}, []api.Phase{h, r, r, w}},
		{nowhere(4), []api.Phase{r, r, r, w}},
		{append(nowhere(4), 2), []api.Phase{r, r, h, w}},
	} {
		if got := heard(c.flips...); !slices.Equal(got, c.want) {
			t.Errorf("flipped %v: phases %v; want %v", c.flips, got, c.want)
		}
	}

	b := given(t, []api.Frame{plain}) // who is flipped hears 1 where 0 is
	goes(b, 11)
	if bit, notes := b.Step(0, 0); bit != 0 || !slices.Equal(notes, []api.Note{{Node: 0, Happen: api.Happen{Began: true, Bad: api.BitError}}}) {
		t.Errorf("its first bit flipped: %d, %v", bit, notes)
	}
}

func TestNotesAreTheCallers(t *testing.T) { // P3 of the whole
	b := given(t, []api.Frame{told(short(1)), told(short(2)), told(short(3))})
	goes(b, 11)
	_, first := b.Step()
	kept := slices.Clone(first)
	_ = append(first[:1], api.Note{Node: 9})
	first[0] = api.Note{Node: 7}
	changed := slices.Clone(first)
	goes(b, 200)
	if len(kept) != 3 || !slices.Equal(first, changed) {
		t.Errorf("%v became %v", changed, first)
	}
	spare := []int{0, 5, 6, 7}
	b.Step(spare[:1]...)
	if !slices.Equal(spare, []int{0, 5, 6, 7}) {
		t.Errorf("behind the flips' end: %v", spare)
	}
}
