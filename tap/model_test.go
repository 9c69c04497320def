package tap_test

import (
	"math/rand"
	"slices"
	"testing"

	"bellbuoy/api"
	"bellbuoy/bus"
	"bellbuoy/net"
	"bellbuoy/tap"
	"bellbuoy/wire"
)

// wanted is the pieces of a string, by the chapter's words, with frames as wire.Decode reads them.
func wanted(b []byte) []api.Piece {
	var l []api.Piece
	behind := 3 // how many bits there were behind a frame, as far as that counts
	for at := 0; at < len(b); {
		from := at
		for at < len(b) && b[at] != 0 {
			at++
		}
		if at > from {
			l = append(l, idle(from, at))
			behind += at - from
		}
		if at == len(b) {
			break
		}
		p := busy(b, at, behind < 2)
		l = append(l, p)
		at, behind = p.To, 3
		if p.Kind == api.FramePiece {
			behind = 0
		}
	}
	return l
}

// busy is the piece that a 0 begins: a frame, if it may be one, and is whole.
func busy(b []byte, from int, shortly bool) api.Piece {
	bad := from
	if !shortly {
		f, n, errno := wire.Decode(b[from:])
		if errno == api.OK {
			return api.Piece{Kind: api.FramePiece, From: from, To: from + n, Frame: f, Answered: b[from+n-9] == 0}
		}
		bad = from + n
	}
	for to := bad + 1; to <= len(b); to++ { // it is torn with that bit, and not ahead of it
		if to-from >= 11 && !slices.Contains(b[to-11:to], 0) {
			return torn(from, to)
		}
	}
	return torn(from, len(b))
}

// anyFrame is a frame that can be.
func anyFrame(chance *rand.Rand) api.Frame {
	f := api.Frame{Id: api.Ident{N: chance.Uint32() >> 21}, Remote: chance.Intn(3) == 0, Len: chance.Intn(9)}
	if chance.Intn(2) == 0 {
		f.Id = api.Ident{Ext: true, N: chance.Uint32() >> 3}
	}
	if !f.Remote && chance.Intn(3) > 0 {
		chance.Read(f.Data[:f.Len])
	}
	return f
}

// anyBits is a string of frames, bits between them, flags, and noise.
func anyBits(chance *rand.Rand) []byte {
	var b []byte
	for range chance.Intn(7) {
		switch chance.Intn(9) {
		case 0:
			b = append(b, zeros(1+chance.Intn(14))...)
		case 1:
			for range chance.Intn(30) {
				b = append(b, byte(chance.Intn(2)))
			}
		case 2:
			f := answered(anyFrame(chance))
			b = append(b, f[:chance.Intn(len(f))]...)
		case 3:
			b = append(b, ones(9+chance.Intn(4))...)
		default:
			f := unanswered(anyFrame(chance))
			f[slot(f)] = byte(chance.Intn(2))
			b = append(b, f...)
		}
		b = append(b, ones([]int{0, 1, 2, 3, 3, 3, 11, 12}[chance.Intn(8)])...)
	}
	for range chance.Intn(3) {
		if len(b) > 0 {
			b[chance.Intn(len(b))] ^= 1
		}
	}
	return b
}

// asks fails unless a string has the pieces that it ought to have, and its frames, and its load, are those of them; it answers how many of each kind there are.
func asks(t *testing.T, b []byte) [3]int {
	t.Helper()
	l := wanted(b)
	tells(t, b, l...)
	var frames []api.Frame
	var kinds [3]int
	idles, at := 0, 0
	for k, p := range l {
		if p.From != at || p.To <= p.From || k > 0 && p.Kind == api.IdlePiece && l[k-1].Kind == api.IdlePiece {
			t.Fatalf("pieces of %v are %v: they do not adjoin", b, l)
		}
		at = p.To
		kinds[p.Kind]++
		switch p.Kind {
		case api.IdlePiece:
			idles += p.To - p.From
		case api.FramePiece:
			frames = append(frames, p.Frame)
		}
	}
	if at != len(b) {
		t.Fatalf("pieces of %v end at %d", b, at)
	}
	if !slices.Equal(tap.Frames(b), frames) {
		t.Fatalf("Frames(%v) = %v; want %v", b, tap.Frames(b), frames)
	}
	load := 0
	if len(b) > 0 {
		load = (len(b) - idles) * 1000 / len(b)
	}
	if tap.Load(b) != load {
		t.Fatalf("Load(%v) = %d; want %d", b, tap.Load(b), load)
	}
	return kinds
}

func TestAnyBits(t *testing.T) { // P32.1 to P32.3
	chance := rand.New(rand.NewSource(187))
	var kinds [3]int
	for range 20000 {
		for kind, n := range asks(t, anyBits(chance)) {
			kinds[kind] += n
		}
	}
	for kind, n := range kinds {
		if n < 10000 {
			t.Errorf("kind %d just %d times", kind, n)
		}
	}
}

func TestAllShort(t *testing.T) { // P32.1 to P32.3: all strings of up to 14 bits
	for n := range 15 {
		for v := range 1 << n {
			b := make([]byte, n)
			for at := range b {
				b[at] = byte(v >> at & 1)
			}
			asks(t, b)
		}
	}
}

func TestEachFlip(t *testing.T) { // P32.1, P32.3: each bit of two frames, and of what stands around them, that is another one
	for _, f := range frames {
		for _, gap := range []int{2, 3, 5} {
			b := slices.Concat(ones(3), answered(f), ones(gap), unanswered(plain), ones(15))
			for at := range b {
				b[at] ^= 1
				asks(t, b)
				b[at] ^= 1
			}
		}
	}
}

func TestEachBeginning(t *testing.T) { // P32.1: End is what there is up to now, and changes nothing
	chance := rand.New(rand.NewSource(188))
	for range 300 {
		b := anyBits(chance)
		r := tap.New()
		var told []api.Piece
		for at, bit := range b {
			if p, ok := r.Hear(bit); ok {
				told = append(told, p)
			}
			l := told
			if p, ok := r.End(); ok {
				l = append(slices.Clone(told), p)
			}
			if want := wanted(b[:at+1]); !slices.Equal(l, want) || r.Time() != at+1 {
				t.Fatalf("pieces of %v are %v, at %d; want %v", b[:at+1], l, r.Time(), want)
			}
		}
	}
}

func TestFrameIsItself(t *testing.T) { // P32.5
	chance := rand.New(rand.NewSource(189))
	for range 5000 {
		f := anyFrame(chance)
		ahead, behind := chance.Intn(20), chance.Intn(20)
		b := slices.Concat(ones(ahead), unanswered(f), ones(behind))
		if l := tap.Frames(b); !slices.Equal(l, []api.Frame{f}) {
			t.Fatalf("Frames of %v = %v", f, l)
		}
		for _, p := range tap.Pieces(b) {
			if p.Kind == api.TornPiece || p.Kind == api.FramePiece && p != whole(ahead, f, false) {
				t.Fatalf("of %v there is %v", f, p)
			}
		}
	}
}

// heard fails unless frames are just what a tap hears of bits, all of them answered, and nothing is torn.
func heard(t *testing.T, bits []byte, frames []api.Frame) {
	t.Helper()
	if l := tap.Frames(bits); !slices.Equal(l, frames) {
		t.Fatalf("a tap hears %v; %v were sent", l, frames)
	}
	for _, p := range tap.Pieces(bits) {
		if p.Kind == api.TornPiece || p.Kind == api.FramePiece && !p.Answered {
			t.Fatalf("a tap hears %v", p)
		}
	}
}

// record is what was on a wire, and which frames were sent.
type record struct {
	bits []byte
	sent []api.Frame
}

func (r *record) put(bit byte, notes []api.Note) {
	r.bits = append(r.bits, bit)
	for _, n := range notes {
		if n.Happen.Sent {
			r.sent = append(r.sent, n.Happen.Frame)
		}
	}
}

// heard fails unless the frames that were sent are just what a tap hears, all of them answered. What is torn is one at most, at the end: a frame that was not sent as yet.
func (r *record) heard(t *testing.T) {
	t.Helper()
	if l := tap.Frames(r.bits); !slices.Equal(l, r.sent) {
		t.Fatalf("a tap hears %v; %v were sent", l, r.sent)
	}
	l := tap.Pieces(r.bits)
	for k, p := range l {
		if p.Kind == api.TornPiece && k < len(l)-1 || p.Kind == api.FramePiece && !p.Answered {
			t.Fatalf("a tap hears %v", p)
		}
	}
}

func TestOfBus(t *testing.T) { // P32.4: without a flip a tap hears just what was sent
	chance := rand.New(rand.NewSource(190))
	total := 0
	for range 100 {
		b, _ := bus.New(2 + chance.Intn(7))
		r := &record{}
		for b.Time() < 4000 {
			if k := chance.Intn(b.Nodes()); chance.Intn(60) == 0 {
				f := anyFrame(chance)
				f.Id.N = f.Id.N&^7 | uint32(k) // nodes ask unlike
				b.Ask(k, f)
			}
			r.put(b.Step())
		}
		r.heard(t)
		total += len(r.sent)
	}
	if total < 1000 {
		t.Errorf("just %d frames", total)
	}
}

// anyPlant is a network in which much is sent.
func anyPlant(chance *rand.Rand) api.Plant {
	p := api.Plant{Nodes: 2 + chance.Intn(4), Length: 100 + chance.Int63n(1000), Room: 4, Beat: api.Beat{Nominal: 4, Drift: 1}, Tune: 100, Base: 900, Step: 200, Period: 400}
	for id := range 2 * p.Nodes {
		p.Streams = append(p.Streams, api.Stream{Id: id, Node: id % p.Nodes, Class: api.Class(1 + id%3), Period: 1 << 20, Deadline: 20000, Slot: id, Bytes: chance.Intn(9)})
	}
	return p
}

func TestOfNet(t *testing.T) { // E1: of a whole network, too
	chance := rand.New(rand.NewSource(191))
	total := 0
	for range 20 {
		p := anyPlant(chance)
		n, errno := net.New(p)
		if errno != api.OK {
			t.Fatalf("New(%v): %d", p, errno)
		}
		r := &record{}
		for n.Time() < 6000 {
			if id := chance.Intn(len(p.Streams)); chance.Intn(100) == 0 {
				n.Release(id%p.Nodes, id, [8]byte{byte(n.Time()), 1})
			}
			r.put(n.Step([]int64{3, 4, 5, 4, 3}))
		}
		r.heard(t)
		total += len(r.sent)
	}
	if total < 500 {
		t.Errorf("just %d frames", total)
	}
}
