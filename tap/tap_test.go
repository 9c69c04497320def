package tap_test

import (
	"slices"
	"strings"
	"testing"

	"bellbuoy/api"
	"bellbuoy/tap"
	"bellbuoy/wire"
)

// Frames of both sorts, with bytes and without.
var (
	plain   = api.Frame{Id: api.Ident{N: 0x123}, Len: 1, Data: [8]byte{10}}
	long    = api.Frame{Id: api.Ident{Ext: true, N: 0x1abcdef0}, Len: 8, Data: [8]byte{1, 2, 3, 4, 5, 6, 7, 255}}
	asking  = api.Frame{Id: api.Ident{N: 0x7ff}, Remote: true, Len: 3}
	noughts = api.Frame{}
)

// frames are those that most tests go through.
var frames = []api.Frame{plain, long, asking, noughts}

// ones is so many bits of 1, zeros so many of 0.
func ones(n int) []byte  { return bitsOf(strings.Repeat("1", n)) }
func zeros(n int) []byte { return make([]byte, n) }

func bitsOf(s string) []byte {
	b := make([]byte, len(s))
	for at := range s {
		b[at] = s[at] - '0'
	}
	return b
}

// unanswered is a frame's bits as nobody answers them, answered as others do.
func unanswered(f api.Frame) []byte { return wire.Encode(f) }

func answered(f api.Frame) []byte {
	b := wire.Encode(f)
	b[slot(b)] = 0
	return b
}

// slot is the place of the bit with which a frame is answered.
func slot(b []byte) int { return len(b) - 9 }

func idle(from, to int) api.Piece { return api.Piece{Kind: api.IdlePiece, From: from, To: to} }
func torn(from, to int) api.Piece { return api.Piece{Kind: api.TornPiece, From: from, To: to} }

// whole is a frame's piece.
func whole(from int, f api.Frame, answered bool) api.Piece {
	return api.Piece{Kind: api.FramePiece, From: from, To: from + wire.Long(f), Frame: f, Answered: answered}
}

// tells fails unless a string has just these pieces, each told at the bit with which it ends, but an idle one at the bit behind it.
func tells(t *testing.T, b []byte, want ...api.Piece) {
	t.Helper()
	has(t, b, want)
	told, left := want, []api.Piece(nil)
	if n := len(want); n > 0 && !ended(b, want[n-1]) {
		told, left = want[:n-1], want[n-1:]
	}
	r := tap.New()
	for at, bit := range b {
		p, ok := r.Hear(bit)
		answers(t, p, ok, len(told) > 0 && toldAt(told[0]) == at, told)
		if ok {
			told = told[1:]
		}
		if r.Time() != at+1 {
			t.Fatalf("Time() = %d behind %d bits", r.Time(), at+1)
		}
	}
	for range 2 { // it is asked for, and goes on
		p, ok := r.End()
		answers(t, p, ok, len(left) > 0, left)
	}
}

// has fails unless a string has just these pieces.
func has(t *testing.T, b []byte, want []api.Piece) {
	t.Helper()
	if l := tap.Pieces(b); !slices.Equal(l, want) {
		t.Fatalf("Pieces(%v) = %v; want %v", b, l, want)
	}
}

// answers fails unless the first one of pieces was told, or, if none is to be told, nothing.
func answers(t *testing.T, p api.Piece, ok, any bool, l []api.Piece) {
	t.Helper()
	want := api.Piece{}
	if any {
		want = l[0]
	}
	if p != want || ok != any {
		t.Fatalf("%v, %v was told; want %v, %v", p, ok, want, any)
	}
}

// toldAt is the bit at which a piece is told.
func toldAt(p api.Piece) int {
	if p.Kind == api.IdlePiece {
		return p.To
	}
	return p.To - 1
}

// ended tells whether the last piece of a string has ended: a frame, and what is torn, with the bits that end it.
func ended(b []byte, p api.Piece) bool {
	return p.Kind == api.FramePiece || p.Kind == api.TornPiece && slices.Equal(b[max(p.From, len(b)-11):], ones(11))
}

func TestNil(t *testing.T) { // P32.1
	var r *tap.Tap
	for _, bit := range []byte{0, 1, 255, 0, 0, 0, 0, 0, 0, 0} {
		if p, ok := r.Hear(bit); p != (api.Piece{}) || ok {
			t.Errorf("Hear(%d) = %v, %v of none", bit, p, ok)
		}
		if p, ok := r.End(); p != (api.Piece{}) || ok || r.Time() != 0 {
			t.Errorf("End() = %v, %v of none, at %d", p, ok, r.Time())
		}
	}
}

func TestNew(t *testing.T) { // P32.1
	for _, r := range []*tap.Tap{tap.New(), {}} {
		if p, ok := r.End(); p != (api.Piece{}) || ok || r.Time() != 0 {
			t.Errorf("End() = %v, %v of nothing, at %d", p, ok, r.Time())
		}
		for at, bit := range unanswered(plain) {
			p, ok := r.Hear(bit)
			if last := at == wire.Long(plain)-1; ok != last || last && p != whole(0, plain, false) {
				t.Errorf("Hear of bit %d = %v, %v", at, p, ok)
			}
		}
	}
}

func TestIdle(t *testing.T) { // P32.1, P32.2, example 1
	tells(t, nil)
	tells(t, ones(3), idle(0, 3))
	for n := 1; n < 40; n++ {
		tells(t, ones(n), idle(0, n))
		tells(t, append(ones(n), 0), idle(0, n), torn(n, n+1))
	}
	tells(t, zeros(1), torn(0, 1))
}

func TestFrame(t *testing.T) { // P32.1, P32.2, P32.5: a frame, with as many idle bits around as one likes, answered or not
	for _, f := range frames {
		for _, ahead := range []int{0, 1, 2, 3, 10, 11, 12, 50} {
			for _, behind := range []int{0, 1, 2, 3, 10, 11, 12, 50} {
				for _, a := range []bool{false, true} {
					b := unanswered(f)
					if a {
						b = answered(f)
					}
					want := []api.Piece{whole(ahead, f, a)}
					if ahead > 0 {
						want = append([]api.Piece{idle(0, ahead)}, want...)
					}
					if behind > 0 {
						want = append(want, idle(ahead+len(b), ahead+len(b)+behind))
					}
					tells(t, slices.Concat(ones(ahead), b, ones(behind)), want...)
				}
			}
		}
	}
}

func TestBehindFrame(t *testing.T) { // P32.1: a 0 as one of the first two bits behind a frame is torn, as the third one it begins a frame
	for _, f := range frames {
		n := wire.Long(f)
		for gap := range 6 {
			b := slices.Concat(answered(f), ones(gap), unanswered(plain), ones(20))
			end := n + gap + wire.Long(plain)
			want := []api.Piece{whole(0, f, true)}
			if gap > 0 {
				want = append(want, idle(n, n+gap))
			}
			if gap < 2 { // the frame's own last bits of 1 are among the eleven
				cut := n + gap + bytesEnd(unanswered(plain), ones(20))
				tells(t, b, append(want, torn(n+gap, cut), idle(cut, len(b)))...)
				continue
			}
			tells(t, b, append(want, whole(n+gap, plain, false), idle(end, len(b)))...)
		}
		for gap := range 2 { // an overload, and a frame behind it
			b := slices.Concat(answered(f), ones(gap), zeros(6), ones(11), answered(f))
			want := []api.Piece{whole(0, f, true), torn(n+gap, n+gap+17), whole(n+gap+17, f, true)}
			if gap > 0 {
				want = slices.Insert(want, 1, idle(n, n+gap))
			}
			tells(t, b, want...)
		}
	}
}

// bytesEnd is behind how many bits eleven ones were there one behind the other.
func bytesEnd(l ...[]byte) int {
	run := 0
	for at, bit := range slices.Concat(l...) {
		run++
		if bit == 0 {
			run = 0
		}
		if run == 11 {
			return at + 1
		}
	}
	return 0
}

func TestGapIsBehindFrames(t *testing.T) { // P32.1: just behind frames: at first, and behind what is torn, each 0 begins one
	for gap := range 4 {
		begun := slices.Concat(ones(gap), answered(plain))
		want := []api.Piece{whole(gap, plain, true)}
		if gap > 0 {
			want = []api.Piece{idle(0, gap), whole(gap, plain, true)}
		}
		tells(t, begun, want...)
		want = []api.Piece{torn(0, 18), whole(18+gap, plain, true)}
		if gap > 0 {
			want = slices.Insert(want, 1, idle(18, 18+gap))
		}
		tells(t, slices.Concat(zeros(7), ones(11), begun), want...)
	}
	n := wire.Long(plain)
	tells(t, slices.Concat(answered(plain), zeros(1), ones(11), answered(plain)), whole(0, plain, true), torn(n, n+12), whole(n+12, plain, true))
	for gap := 2; gap < 6; gap++ { // each frame has a gap of its own
		b := slices.Concat(answered(plain), ones(gap), answered(plain), ones(1), zeros(1), ones(3))
		tells(t, b, whole(0, plain, true), idle(n, n+gap), whole(n+gap, plain, true), idle(2*n+gap, 2*n+gap+1), torn(2*n+gap+1, len(b)))
	}
}

func TestTorn(t *testing.T) { // P32.1: eleven bits of 1 one behind the other, those too that were heard ahead of the bit that is bad
	tells(t, bitsOf("000000"), torn(0, 6))
	tells(t, slices.Concat(zeros(6), ones(10)), torn(0, 16))
	tells(t, slices.Concat(zeros(6), ones(11)), torn(0, 17))
	tells(t, slices.Concat(zeros(6), ones(12)), torn(0, 17), idle(17, 18))
	tells(t, slices.Concat(zeros(6), ones(10), zeros(1), ones(10)), torn(0, 27))
	tells(t, slices.Concat(zeros(6), ones(10), zeros(1), ones(11)), torn(0, 28))
	tells(t, slices.Concat(zeros(6), ones(11), zeros(1)), torn(0, 17), torn(17, 18))
	tells(t, slices.Concat(zeros(6), ones(11), zeros(6), ones(11)), torn(0, 17), torn(17, 34))
	tells(t, slices.Concat(zeros(1), ones(6)), torn(0, 7)) // the sixth of them is bad
	tells(t, slices.Concat(zeros(1), ones(10)), torn(0, 11))
	tells(t, slices.Concat(zeros(1), ones(11)), torn(0, 12))
	tells(t, slices.Concat(zeros(1), ones(15)), torn(0, 12), idle(12, 16))
	tells(t, slices.Concat(ones(2), bitsOf("010"), ones(20)), idle(0, 2), torn(2, 16), idle(16, 25))
}

func TestCut(t *testing.T) { // P32.1: a frame that is not whole is torn, however far it is
	for _, f := range frames {
		b := answered(f)
		for n := 1; n < len(b); n++ {
			tells(t, b[:n], torn(0, n))
			tells(t, append(ones(2), b[:n]...), idle(0, 2), torn(2, n+2))
		}
	}
}

func TestBadEnd(t *testing.T) { // P32.1: each of the last bits that is another one, but the slot's; the sum's too
	for _, f := range frames {
		for at := range 10 {
			b := unanswered(f)
			place := len(b) - 10 + at
			b[place] ^= 1
			if at == 1 {
				tells(t, append(b, 1), whole(0, f, true), idle(len(b), len(b)+1))
				continue
			}
			if at == 9 { // the seventh bit of the end: nobody waits for more bits, but the frame is torn
				tells(t, b, torn(0, len(b)))
				tells(t, slices.Concat(b, zeros(6), ones(11), b), torn(0, len(b)+17), torn(len(b)+17, 2*len(b)+17))
				continue
			}
			tells(t, slices.Concat(b, zeros(6), ones(11)), torn(0, len(b)+17))
			tells(t, slices.Concat(b, ones(11-(9-at))), torn(0, place+12))
		}
	}
}

func TestBadSum(t *testing.T) { // P32.1: it is told bad at the bit that ends the slot
	for _, b := range [][]byte{unanswered(plain), answered(plain)} {
		spoil(b)
		n := len(b)
		if _, at, errno := wire.Decode(b); errno != api.ErrCrc || at != n-8 {
			t.Fatalf("Decode(%v) = %d at %d", b, errno, at)
		}
		tells(t, append(slices.Clone(b[:n-7]), zeros(1)...), torn(0, n-6))
		tells(t, slices.Concat(b[:n-7], zeros(6), ones(11)), torn(0, n+10))
		end := bytesEnd(b, ones(11)) // it has its last bits of 1 ahead
		tells(t, slices.Concat(b, ones(11)), torn(0, end), idle(end, n+11))
	}
}

// spoil gives a frame's bits another byte, and leaves the sum.
func spoil(b []byte) {
	for at := 20; at < len(b); at++ {
		b[at] ^= 1
		if _, _, errno := wire.Decode(b); errno == api.ErrCrc {
			return
		}
		b[at] ^= 1
	}
}

func TestBytesAsBits(t *testing.T) { // P3: a byte is 0, or else 1
	b := slices.Concat(ones(3), answered(plain), ones(3), unanswered(long), zeros(7), ones(13))
	want := tap.Pieces(b)
	if len(want) != 6 {
		t.Fatalf("Pieces(%v) = %v", b, want)
	}
	for at, v := range b {
		if v != 0 {
			b[at] = []byte{255, 2, 128, 3, 48, 16}[at%6]
		}
	}
	before := slices.Clone(b)
	has(t, b, want)
	if !slices.Equal(b, before) {
		t.Error("the bits are others")
	}
	if l := tap.Frames(b); !slices.Equal(l, []api.Frame{plain, long}) {
		t.Errorf("Frames = %v", l)
	}
}

func TestFrames(t *testing.T) { // P32.2: answered or not, in order, and nothing of what is torn
	for _, x := range []struct {
		b    []byte
		want []api.Frame
	}{
		{nil, nil},
		{ones(30), nil},
		{zeros(30), nil},
		{answered(plain), []api.Frame{plain}},
		{unanswered(plain), []api.Frame{plain}},
		{answered(plain)[:wire.Long(plain)-1], nil},
		{slices.Concat(answered(plain), ones(3), unanswered(long), ones(3), answered(asking), ones(3), answered(plain)), []api.Frame{plain, long, asking, plain}},
		{slices.Concat(answered(plain), ones(1), unanswered(long), ones(11), answered(asking)), []api.Frame{plain, asking}},
		{slices.Concat(zeros(6), ones(11), answered(noughts), zeros(6), ones(11), answered(noughts)), []api.Frame{noughts, noughts}},
	} {
		if l := tap.Frames(x.b); !slices.Equal(l, x.want) {
			t.Errorf("Frames(%v) = %v; want %v", x.b, l, x.want)
		}
	}
}

func TestLoad(t *testing.T) { // P32.2: rounded down; what is torn is not idle
	n := wire.Long(plain)
	for _, x := range []struct {
		b    []byte
		want int
	}{
		{nil, 0},
		{[]byte{}, 0},
		{ones(1), 0},
		{ones(1000), 0},
		{zeros(1), 1000},
		{zeros(77), 1000},
		{answered(plain), 1000},
		{unanswered(long), 1000},
		{slices.Concat(ones(1), zeros(1)), 500},
		{slices.Concat(ones(2), zeros(1)), 333},
		{slices.Concat(ones(1), zeros(2)), 666},
		{slices.Concat(ones(999), zeros(1)), 1},
		{slices.Concat(ones(1000), zeros(1)), 0},
		{slices.Concat(ones(1), zeros(1000)), 999},
		{slices.Concat(ones(n), answered(plain)), 500},
		{slices.Concat(answered(plain), ones(3), answered(plain)), 2 * n * 1000 / (2*n + 3)},
		{slices.Concat(zeros(6), ones(11)), 1000}, // the bits that end it belong to it
		{slices.Concat(zeros(6), ones(28)), 500},
		{slices.Concat(answered(plain), zeros(6), ones(11), ones(n+17)), 500},
	} {
		if l := tap.Load(x.b); l != x.want {
			t.Errorf("Load(%v) = %d; want %d", x.b, l, x.want)
		}
	}
}
