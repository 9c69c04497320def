package trace_test

import (
	"encoding/binary"
	"math/rand"
	"slices"
	"testing"

	"bellbuoy/api"
	"bellbuoy/bus"
	"bellbuoy/frame"
	"bellbuoy/trace"
)

// anyFrame is a frame that can be.
func anyFrame(chance *rand.Rand) api.Frame {
	f := api.Frame{Id: api.Ident{N: chance.Uint32() >> 21}, Remote: chance.Intn(3) == 0, Len: chance.Intn(9)}
	if chance.Intn(2) == 0 {
		f.Id = api.Ident{Ext: true, N: chance.Uint32() >> 3}
	}
	if !f.Remote {
		chance.Read(f.Data[:f.Len])
	}
	return f
}

// anyNote is a note of a node that can be.
func anyNote(chance *rand.Rand, node int) api.Note {
	n := api.Note{Node: node, Happen: api.Happen{Began: chance.Intn(2) == 0, Lost: chance.Intn(2) == 0, Bad: api.Bad(chance.Intn(7))}}
	switch chance.Intn(3) {
	case 0:
		n.Happen.Sent, n.Happen.Frame = true, anyFrame(chance)
	case 1:
		n.Happen.Got, n.Happen.Frame = true, anyFrame(chance)
	}
	if n.Happen == (api.Happen{}) {
		n.Happen.Began = true
	}
	return n
}

// anyNotes are notes, by rising nodes.
func anyNotes(chance *rand.Rand) []api.Note {
	var l []api.Note
	for node := chance.Intn(8); node < api.MaxNodes && len(l) < 5; node += 1 + chance.Intn(8) {
		l = append(l, anyNote(chance, node))
	}
	return l
}

// spoilt is notes of which one is perhaps another.
func spoilt(chance *rand.Rand, l []api.Note) []api.Note {
	if len(l) == 0 {
		return l
	}
	n := &l[chance.Intn(len(l))]
	switch chance.Intn(12) {
	case 0:
		n.Node = chance.Intn(40) - 4
	case 1:
		n.Happen.Bad = api.Bad(chance.Intn(12) - 3)
	case 2:
		n.Happen.Sent = !n.Happen.Sent
	case 3:
		n.Happen.Frame.Len = chance.Intn(12) - 1
	case 4:
		n.Happen.Frame.Id.Ext = !n.Happen.Frame.Id.Ext
	case 5:
		*n = l[0]
	}
	return l
}

// mayBe is whether a note can be, by the chapter's words.
func mayBe(n api.Note) bool {
	h := n.Happen
	whole := frame.Right(h.Frame) == api.OK
	if !h.Sent && !h.Got {
		whole = h.Frame == api.Frame{}
	}
	return slices.Contains(nodes(), n.Node) && h != api.Happen{} && h.Bad >= 0 && h.Bad <= 6 && !(h.Sent && h.Got) && whole
}

func nodes() []int {
	var l []int
	for node := range 32 {
		l = append(l, node)
	}
	return l
}

// wanted is what Add ought to answer.
func wanted(have []api.Entry, at int, l []api.Note) api.Errno {
	twice, kind := false, false
	for k, n := range l {
		kind = kind || !mayBe(n)
		twice = twice || k > 0 && l[k-1].Node >= n.Node || len(have) > 0 && have[len(have)-1].At == at
	}
	switch {
	case at < 0 || at > last || len(have) > 0 && at < have[len(have)-1].At:
		return api.ErrRange
	case kind:
		return api.ErrKind
	case twice:
		return api.ErrTwice
	}
	return api.OK
}

func TestAnyCalls(t *testing.T) { // P31.1, P31.4, P31.5: whatever is added, a trace has what was taken, and is as it was behind what was not
	chance := rand.New(rand.NewSource(183))
	count := map[api.Errno]int{}
	for range 400 {
		r := trace.New()
		var have []api.Entry
		at := 0
		for range 30 {
			at += chance.Intn(4) - 1
			if chance.Intn(40) == 0 {
				at += 1 << chance.Intn(33)
			}
			l := spoilt(chance, anyNotes(chance))
			want := wanted(have, at, l)
			if errno := r.Add(at, l...); errno != want {
				t.Fatalf("behind %v: Add(%d, %v) = %d; want %d", have, at, l, errno, want)
			}
			count[want]++
			if want == api.OK {
				have = append(have, entries(at, l...)...)
			}
			has(t, r, have)
		}
		parts(t, chance, r, have)
		back(t, r, have)
	}
	for _, errno := range []api.Errno{api.OK, api.ErrRange, api.ErrKind, api.ErrTwice} {
		if count[errno] < 500 {
			t.Errorf("%d only %d times", errno, count[errno])
		}
	}
}

// parts fails unless what nodes have, and what there is between bits, is all.
func parts(t *testing.T, chance *rand.Rand, r *trace.Trace, have []api.Entry) {
	t.Helper()
	next := map[int][]api.Entry{}
	for _, e := range have {
		next[e.Note.Node] = append(next[e.Note.Node], e)
	}
	total := 0
	for node := -1; node <= api.MaxNodes; node++ {
		of := r.Of(node)
		if !slices.Equal(of, next[node]) {
			t.Fatalf("Of(%d) = %v; want %v", node, of, next[node])
		}
		total += len(of)
		asks(t, r, node, of)
	}
	if total != len(have) {
		t.Fatalf("%d entries of nodes; want %d", total, len(have))
	}
	var joined []api.Entry
	for a := 0; a < api.MaxBits; {
		b := a + 1 + chance.Intn(20)
		if chance.Intn(5) == 0 {
			b = a + 1 + chance.Intn(1<<31)
		}
		joined = append(joined, r.Between(a, b)...)
		if b-a > 1<<20 || len(joined) == len(have) {
			joined = append(joined, r.Between(b, api.MaxBits)...)
			break
		}
		a = b
	}
	if !slices.Equal(joined, have) {
		t.Fatalf("%v between bits that adjoin; want %v", joined, have)
	}
}

// asks fails unless a node's frames, and what was wrong, are those of its entries.
func asks(t *testing.T, r *trace.Trace, node int, of []api.Entry) {
	t.Helper()
	var out, in []api.Frame
	var bads [7]int
	for _, e := range of {
		if e.Note.Happen.Sent {
			out = append(out, e.Note.Happen.Frame)
		}
		if e.Note.Happen.Got {
			in = append(in, e.Note.Happen.Frame)
		}
		bads[e.Note.Happen.Bad]++
	}
	if !slices.Equal(r.Frames(node, true), out) || !slices.Equal(r.Frames(node, false), in) {
		t.Fatalf("node %d sent %v, and got %v; want %v, %v", node, r.Frames(node, true), r.Frames(node, false), out, in)
	}
	for b, n := range bads {
		if r.Bad(node, api.Bad(b)) != n {
			t.Fatalf("Bad(%d, %d) = %d; want %d", node, b, r.Bad(node, api.Bad(b)), n)
		}
	}
}

// back fails unless a trace's bytes are those that it ought to have, and are it.
func back(t *testing.T, r *trace.Trace, have []api.Entry) {
	t.Helper()
	b := trace.Encode(r)
	if !slices.Equal(b, written(have)) {
		t.Fatalf("Encode of %v = %v; want %v", have, b, written(have))
	}
	decodes(t, b, have)
	for n := range len(b) {
		faults(t, b[:n], api.ErrLen, n)
	}
}

// written is the bytes of entries, by the chapter's words.
func written(l []api.Entry) []byte {
	b := binary.BigEndian.AppendUint32([]byte("BBT1"), uint32(len(l)))
	for _, e := range l {
		h := e.Note.Happen
		b = binary.BigEndian.AppendUint32(b, uint32(e.At))
		b = append(b, byte(e.Note.Node), sum(h.Began, h.Lost, h.Sent, h.Got), byte(h.Bad))
		if h.Sent || h.Got {
			b = append(b, sum(h.Frame.Id.Ext, h.Frame.Remote))
			b = binary.BigEndian.AppendUint32(b, h.Frame.Id.N)
			b = append(b, byte(h.Frame.Len))
			b = append(b, h.Frame.Data[:h.Frame.Len]...)
		}
	}
	return b
}

// sum is 1 for the first one that is so, 2 for the second one, and twice as much for each behind.
func sum(so ...bool) byte {
	n := byte(0)
	for k, is := range so {
		if is {
			n += 1 << k
		}
	}
	return n
}

// readOf is what Decode ought to answer, by the chapter's words.
func readOf(b []byte) ([]api.Entry, api.Fault) {
	wrong := func(errno api.Errno, at int) ([]api.Entry, api.Fault) { return nil, api.Fault{Errno: errno, At: at} }
	switch {
	case len(b) < 8:
		return wrong(api.ErrLen, len(b))
	case string(b[:4]) != "BBT1":
		return wrong(api.ErrForm, 0)
	case binary.BigEndian.Uint32(b[4:]) > 65536:
		return wrong(api.ErrFull, 4)
	}
	many := int(binary.BigEndian.Uint32(b[4:]))
	var l []api.Entry
	at := 8
	for range many {
		size, kind := sizeOf(b[at:])
		if size > len(b)-at {
			return wrong(api.ErrLen, len(b))
		}
		e := entryOf(b[at : at+size])
		ahead := api.Entry{At: -1}
		if len(l) > 0 {
			ahead = l[len(l)-1]
		}
		switch {
		case e.At > last || e.At < ahead.At:
			return wrong(api.ErrRange, at)
		case kind || !mayBe(e.Note):
			return wrong(api.ErrKind, at)
		case e.At == ahead.At && e.Note.Node <= ahead.Note.Node:
			return wrong(api.ErrTwice, at)
		}
		l = append(l, e)
		at += size
	}
	if at < len(b) {
		return wrong(api.ErrLong, at)
	}
	return l, api.Fault{}
}

// sizeOf is how many bytes the entry that bytes begin with is asked for, as far as they tell, and whether that ends with one that can't be.
func sizeOf(b []byte) (int, bool) {
	switch {
	case len(b) > 5 && b[5] > 15:
		return 6, true
	case len(b) < 6 || b[5] < 4:
		return 7, false
	case len(b) > 7 && b[7] > 3:
		return 8, true
	case len(b) > 12 && b[12] > 8:
		return 13, true
	case len(b) > 12:
		return 13 + int(b[12]), false
	}
	return 13, false
}

// entryOf is the entry of so many bytes; of what stands behind them there is nothing.
func entryOf(b []byte) api.Entry {
	b = append(slices.Clone(b), make([]byte, 21)...)
	e := api.Entry{At: int(binary.BigEndian.Uint32(b)), Note: api.Note{Node: int(b[4])}}
	h := &e.Note.Happen
	h.Began, h.Lost, h.Sent, h.Got, h.Bad = b[5]&1 > 0, b[5]&2 > 0, b[5]&4 > 0, b[5]&8 > 0, api.Bad(b[6])
	if h.Sent || h.Got {
		h.Frame = api.Frame{Id: api.Ident{Ext: b[7]&1 > 0, N: binary.BigEndian.Uint32(b[8:])}, Remote: b[7]&2 > 0, Len: int(b[12])}
		copy(h.Frame.Data[:min(8, h.Frame.Len)], b[13:])
	}
	return e
}

func TestAnyBytes(t *testing.T) { // P31.2, P31.3: whatever bytes there are, each is a trace's that is written so, or refused as the chapter says
	chance := rand.New(rand.NewSource(184))
	count := map[api.Errno]int{}
	for range 60000 {
		b := changed(chance, written(anyEntries(chance)))
		l, want := readOf(b)
		r, fault := trace.Decode(b)
		if fault != want || (r == nil) != (want.Errno != api.OK) || !slices.Equal(r.All(), l) {
			t.Fatalf("Decode(%v) = %v, %v; want %v, %v", b, r.All(), fault, l, want)
		}
		if r != nil && !slices.Equal(trace.Encode(r), b) {
			t.Fatalf("Encode of Decode of %v = %v", b, trace.Encode(r))
		}
		count[want.Errno]++
	}
	for _, errno := range []api.Errno{api.OK, api.ErrLen, api.ErrForm, api.ErrFull, api.ErrRange, api.ErrKind, api.ErrTwice, api.ErrLong} {
		if count[errno] < 300 {
			t.Errorf("%d only %d times", errno, count[errno])
		}
	}
}

// anyEntries are those of a trace.
func anyEntries(chance *rand.Rand) []api.Entry {
	var l []api.Entry
	at := chance.Intn(3)
	for range chance.Intn(4) {
		l = append(l, entries(at, anyNotes(chance)...)...)
		at += 1 + chance.Intn(3)
	}
	return l
}

// changed is bytes of which some are others, or are cut, or doubled.
func changed(chance *rand.Rand, b []byte) []byte {
	if chance.Intn(3) == 0 { // perhaps another one of the first numbers, where most is told
		b[chance.Intn(min(len(b), 24))] = []byte{0, 1, 2, 3, 4, 7, 8, 9, 12, 15, 16, 31, 32, 255}[chance.Intn(14)]
	}
	for range chance.Intn(3) {
		at := chance.Intn(len(b) + 1)
		switch chance.Intn(6) {
		case 0:
			b = b[:at]
		case 1:
			b = append(b, byte(chance.Intn(256)))
		case 2:
			b = slices.Insert(b, at, b[at:min(at+7, len(b))]...)
		default:
			if at < len(b) {
				b[at] = []byte{b[at] ^ 1, b[at] + 1, b[at] - 1, byte(chance.Intn(256)), b[at] ^ 16}[chance.Intn(5)]
			}
		}
		if len(b) == 0 {
			break
		}
	}
	return b
}

func TestNoise(t *testing.T) { // P1, P31.2: bytes of any kind
	chance := rand.New(rand.NewSource(185))
	for range 20000 {
		b := make([]byte, chance.Intn(60))
		chance.Read(b)
		if chance.Intn(2) == 0 {
			b = append([]byte("BBT1\x00\x00\x00"), b...)
		}
		l, want := readOf(b)
		if r, fault := trace.Decode(b); fault != want || !slices.Equal(r.All(), l) {
			t.Fatalf("Decode(%v) = %v, %v; want %v, %v", b, r.All(), fault, l, want)
		}
	}
}

func TestOfBus(t *testing.T) { // P31.1: what happens on a bus can be put behind a trace, all of it
	chance := rand.New(rand.NewSource(186))
	for range 20 {
		b, _ := bus.New(2 + chance.Intn(6))
		r := trace.New()
		var want []api.Entry
		for range 3000 {
			if chance.Intn(50) == 0 {
				b.Ask(chance.Intn(b.Nodes()), anyFrame(chance))
			}
			var flips []int
			if chance.Intn(200) == 0 {
				flips = append(flips, chance.Intn(b.Nodes()))
			}
			at := b.Time()
			_, notes := b.Step(flips...)
			adds(t, r, at, notes...)
			want = append(want, entries(at, notes...)...)
		}
		has(t, r, want)
		decodes(t, trace.Encode(r), want)
	}
}

func TestEachByte(t *testing.T) { // P31.2, P31.3: each byte of a trace's, made each other one
	whole := bytesOf(4, begins, sends, gets, []byte{0, 0, 0, 7, 9, 4, 0, 2, 0, 0, 7, 0xff, 3, 0, 0, 0})
	for at := range whole {
		for v := range 256 {
			b := with(whole, at, byte(v))
			l, want := readOf(b)
			if want == (api.Fault{}) {
				decodes(t, b, l)
			} else {
				faults(t, b, want.Errno, want.At)
			}
		}
	}
}
