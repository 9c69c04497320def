package speak

import (
	"bytes"
	"math"
	"math/rand"
	"slices"
	"strings"
	"testing"

	"bellbuoy/api"
	"bellbuoy/frame"
	"bellbuoy/ident"
	"bellbuoy/listen"
	"bellbuoy/strand"
	"bellbuoy/wire"
)

func short(n uint32) api.Ident { return api.Ident{N: n} }
func long(n uint32) api.Ident  { return api.Ident{Ext: true, N: n} }

// told is a frame of these bytes, asked one that asks for so many.
func told(id api.Ident, data ...byte) api.Frame {
	f := api.Frame{Id: id, Len: len(data)}
	copy(f.Data[:], data)
	return f
}

func asked(id api.Ident, length int) api.Frame {
	return api.Frame{Id: id, Remote: true, Len: length}
}

// frames are of both sorts, of each Len, that ask and that tell; of noughts, of ones, and of any bytes; some have a bit put in just behind those with which they ask, or behind the one that follows.
func frames() []api.Frame {
	chance := rand.New(rand.NewSource(18))
	ids := []api.Ident{short(0), short(0x123), short(0x7f8), short(0x7ff), long(0), long(0x123 << 18), long(0x48c0010), long(0x48c000f), long(0x1fffffff)}
	for range 2 {
		ids = append(ids, short(chance.Uint32()>>21), long(chance.Uint32()>>3))
	}
	var list []api.Frame
	for _, id := range ids {
		for length := range 9 {
			data := make([]byte, length)
			chance.Read(data)
			list = append(list, asked(id, length), told(id, data...), told(id, make([]byte, length)...), told(id, bytes.Repeat([]byte{255}, length)...))
		}
	}
	return list
}

// The kinds of bits, a letter each: the first one, one of the identifier's, one put between these, one of the body's others, one put between those, the slot, the last one, and the others behind the body.
const (
	first   = 's'
	asks    = 'a'
	among   = 'x'
	other   = 'b'
	between = 'e'
	answer  = 'A'
	last    = 'z'
	ends    = '-'
)

// marked is a frame's bits on the wire, with the kind of each: put between by the last five letters of what is there already.
func marked(f api.Frame) (bits, kinds string) {
	asking := 13
	if f.Id.Ext {
		asking = 32
	}
	for at, one := range frame.Body(f) {
		kind, extra := string(rune(other)), string(rune(between))
		if at <= asking {
			kind, extra = string(rune(asks)), string(rune(among))
		}
		if at == 0 {
			kind = string(rune(first))
		}
		bits += string('0' + rune(one))
		kinds += kind
		if strings.HasSuffix(bits, "00000") {
			bits, kinds = bits+"1", kinds+extra
		} else if strings.HasSuffix(bits, "11111") {
			bits, kinds = bits+"0", kinds+extra
		}
	}
	return bits + "1111111111", kinds + "-A-------z"
}

// verdict is what ought to be told of a bit of a kind that was sent, where another one, or the same, is heard.
func verdict(kind, sent, heard byte) api.Verdict {
	switch {
	case kind == answer && heard == '1':
		return api.NoAck
	case kind == answer:
		return api.Fine
	case kind == last && heard == '1':
		return api.Done
	case sent == heard:
		return api.Fine
	case kind == asks && sent == '1':
		return api.Lost
	case kind == among && sent == '1':
		return api.BadExtra
	}
	return api.BadBit
}

// others are bytes that are 1, too.
var others = []byte{255, 2, 128, 3, 48, 16, 254}

// raw is a letter as a bit, at some places another byte than 1 for 1.
func raw(letter byte, at int) byte {
	if letter == '0' {
		return 0
	}
	return append([]byte{1}, others...)[at%(1+len(others))]
}

// state is all that a speaker tells when it is asked.
type state struct {
	bit    byte
	f      api.Frame
	sent   int
	asking bool
}

func asksOf(s *Speaker) state {
	return state{s.Bit(), s.Frame(), s.Sent(), s.Asking()}
}

// ahead is what a speaker ought to tell ahead of a bit.
func ahead(f api.Frame, bits, kinds string, at int) state {
	return state{bits[at] - '0', f, at, kinds[at] == asks || kinds[at] == among}
}

func speaker(t *testing.T, f api.Frame) *Speaker {
	t.Helper()
	s, errno := New(f)
	if errno != api.OK || s == nil {
		t.Fatalf("New(%v) = %v, %d", f, s, errno)
	}
	return s
}

// over fails unless a speaker has nothing any more, behind so many bits, whatever is heard.
func over(t *testing.T, s *Speaker, f api.Frame, sent int) {
	t.Helper()
	want := state{1, f, sent, false}
	for at, bit := range []byte{0, 1, 255, 0, 0, 0, 0, 0, 0, 1, 1, 1, 1, 1, 1, 1, 1, 1, 1, 1} {
		if got := asksOf(s); got != want {
			t.Fatalf("over, %d bits later: %v; want %v", at, got, want)
		}
		if got := s.Heard(bit); got != api.Fine {
			t.Fatalf("over, it hears %d: %d", bit, got)
		}
	}
}

// hears makes a speaker hear these letters, and fails unless it is told of each what it ought to be; the last one may be anything.
func hears(t *testing.T, f api.Frame, bits, kinds, heard string) {
	t.Helper()
	s := speaker(t, f)
	for at := range heard {
		want := ahead(f, bits, kinds, at)
		if got, again := asksOf(s), asksOf(s); got != want || again != want {
			t.Fatalf("%v ahead of bit %d: %v, %v; want %v", f, at, got, again, want)
		}
		told := verdict(kinds[at], bits[at], heard[at])
		if got := s.Heard(raw(heard[at], at)); got != told {
			t.Fatalf("%v sends %c (%c) at %d, and hears %c: %d; want %d", f, bits[at], kinds[at], at, heard[at], got, told)
		}
		if told != api.Fine {
			over(t, s, f, at+1)
			return
		}
	}
}

// slotOf is the place of the slot.
func slotOf(bits string) int { return len(bits) - 9 }

// with is letters with another one at a place.
func with(bits string, at int, letter byte) string {
	return bits[:at] + string(rune(letter)) + bits[at+1:]
}

func flipped(bits string, at int) string { return with(bits, at, '0'+'1'-bits[at]) }

func TestFramesHaveEachKind(t *testing.T) { // what the tests below stand on
	seen := map[string]int{}
	for _, f := range frames() {
		bits, kinds := marked(f)
		if !strand.Same(wire.Encode(f), []byte(strings.Map(func(r rune) rune { return r - '0' }, bits))) {
			t.Fatalf("%v: %s", f, bits)
		}
		for at := range bits {
			seen[kinds[at:at+1]+bits[at:at+1]]++
			if at > 0 {
				seen[kinds[at-1:at+1]]++
			}
		}
	}
	for _, kind := range []string{"s0", "a0", "a1", "x0", "x1", "b0", "b1", "e0", "e1", "A1", "z1", "-1", "xa", "xb", "be", "ab", "eb", "e-", "b-"} {
		if seen[kind] == 0 {
			t.Errorf("none has %s", kind)
		}
	}
}

func TestNew(t *testing.T) { // P9.1
	for _, f := range frames() {
		if got, want := asksOf(speaker(t, f)), (state{0, f, 0, false}); got != want {
			t.Fatalf("New(%v): %v; want %v", f, got, want)
		}
	}
}

func TestNewOfWhatCanNotBe(t *testing.T) { // P9.1
	for _, c := range []struct {
		f    api.Frame
		want api.Errno
	}{
		{api.Frame{Id: short(0x800)}, api.ErrRange},
		{api.Frame{Id: short(math.MaxUint32), Len: 8}, api.ErrRange},
		{api.Frame{Id: long(1 << 29)}, api.ErrRange},
		{api.Frame{Id: long(math.MaxUint32), Remote: true}, api.ErrRange},
		{api.Frame{Id: short(0x800), Len: 9, Data: [8]byte{7: 1}}, api.ErrRange},
		{api.Frame{Id: short(1), Len: -1}, api.ErrLen},
		{api.Frame{Id: short(1), Len: 9}, api.ErrLen},
		{api.Frame{Id: long(1), Remote: true, Len: 16}, api.ErrLen},
		{api.Frame{Id: long(1), Len: math.MinInt}, api.ErrLen},
		{api.Frame{Id: long(1), Len: math.MaxInt, Data: [8]byte{1}}, api.ErrLen},
		{api.Frame{Id: short(1), Len: -1, Data: [8]byte{1}}, api.ErrLen},
		{api.Frame{Id: short(1), Data: [8]byte{1}}, api.ErrForm},
		{api.Frame{Id: short(1), Len: 7, Data: [8]byte{7: 1}}, api.ErrForm},
		{api.Frame{Id: long(1), Remote: true, Len: 8, Data: [8]byte{7: 128}}, api.ErrForm},
		{api.Frame{Id: long(1), Remote: true, Data: [8]byte{1}}, api.ErrForm},
	} {
		s, errno := New(c.f)
		if s != nil || errno != c.want || errno != frame.Right(c.f) {
			t.Errorf("New(%v) = %v, %d; want nil, %d", c.f, s, errno, c.want)
		}
	}
}

func TestNilSpeaker(t *testing.T) { // P9.2
	var s *Speaker
	over(t, s, api.Frame{}, 0)
}

func TestZeroSpeaker(t *testing.T) { // P1 of the whole: one that New did not make has nothing to send
	over(t, &Speaker{}, api.Frame{}, 0)
}

// writtenOut are bits, and their kinds, as one writes them by hand: up to Len's last one, and what is put in there.
var writtenOut = []struct {
	f           api.Frame
	bits, kinds string
}{
	{told(short(0x123), 10), "000100100011" + "00" + "0" + "00" + "1" + "01", "saaaaaaaaaaa" + "aa" + "b" + "bb" + "e" + "bb"},
	{told(short(0x7f8)), "0" + "11111" + "0" + "111000" + "00" + "1" + "00000" + "1", "s" + "aaaaa" + "x" + "aaaaaa" + "aa" + "x" + "bbbbb" + "e"},
	{asked(short(0x7f7), 1), "0" + "11111" + "0" + "110111" + "10" + "0" + "000" + "1" + "1", "s" + "aaaaa" + "x" + "aaaaaa" + "aa" + "b" + "bbb" + "e" + "b"},
	{told(short(0)), "00000" + "1" + "00000" + "1" + "00" + "00" + "0" + "1" + "0000", "saaaa" + "x" + "aaaaa" + "x" + "aa" + "aa" + "b" + "e" + "bbbb"},
	{told(long(0)), "00000" + "1" + "00000" + "1" + "00" + "11" + "00000" + "1" + "00000" + "1" + "00000" + "1" + "000" + "0" + "0" + "1" + "0" + "0000" + "1", "saaaa" + "x" + "aaaaa" + "x" + "aa" + "aa" + "aaaaa" + "x" + "aaaaa" + "x" + "aaaaa" + "x" + "aaa" + "a" + "b" + "e" + "b" + "bbbb" + "e"},
	{told(long(0x48c0010)), "000100100011" + "11" + "00000" + "1" + "00000" + "1" + "00010000" + "0" + "1" + "00" + "000" + "1" + "0", "saaaaaaaaaaa" + "aa" + "aaaaa" + "x" + "aaaaa" + "x" + "aaaaaaaa" + "a" + "x" + "bb" + "bbb" + "e" + "b"},
	{asked(long(0x48c000f), 8), "000100100011" + "11" + "00000" + "1" + "00000" + "1" + "00001111" + "1" + "0" + "00" + "1000", "saaaaaaaaaaa" + "aa" + "aaaaa" + "x" + "aaaaa" + "x" + "aaaaaaaa" + "a" + "x" + "bb" + "bbbb"},
}

func TestWrittenOut(t *testing.T) { // P9.1, P9.2: what is marked by hand is what the other tests mark
	for _, c := range writtenOut {
		bits, kinds := marked(c.f)
		if !strings.HasPrefix(bits, c.bits) || !strings.HasPrefix(kinds, c.kinds) || len(c.bits) != len(c.kinds) {
			t.Fatalf("%v: %s, %s; want %s, %s", c.f, bits, kinds, c.bits, c.kinds)
		}
		for at := range c.bits {
			hears(t, c.f, bits, kinds, flipped(bits[:at+1], at))
		}
	}
}

func TestVerdictsWrittenOut(t *testing.T) { // P9.2, and the chapter's example
	f := told(short(0x7f8))
	for _, c := range []struct {
		at   int
		bit  byte
		want api.Verdict
	}{
		{0, 1, api.BadBit},
		{1, 0, api.Lost},
		{5, 0, api.Lost},
		{6, 1, api.BadBit}, // it was put between, and is 0
		{7, 0, api.Lost},
		{9, 0, api.Lost},
		{10, 1, api.BadBit},
		{13, 1, api.BadBit},
		{14, 1, api.BadBit},   // the last one of the identifier's
		{15, 0, api.BadExtra}, // it was put in behind that one
		{16, 1, api.BadBit},   // the first one behind those
		{21, 0, api.BadBit},   // it was put in behind Len
		{wire.Long(f) - 10, 0, api.BadBit},
		{wire.Long(f) - 9, 1, api.NoAck},
		{wire.Long(f) - 9, 0, api.Fine},
		{wire.Long(f) - 8, 0, api.BadBit},
		{wire.Long(f) - 7, 0, api.BadBit},
		{wire.Long(f) - 2, 0, api.BadBit},
		{wire.Long(f) - 2, 1, api.Fine},
		{wire.Long(f) - 1, 0, api.BadBit},
		{wire.Long(f) - 1, 1, api.Done},
	} {
		s := speaker(t, f)
		for at := range c.at {
			heard := s.Bit()
			if at == wire.Long(f)-9 {
				heard = 0
			}
			s.Heard(heard)
		}
		if got := s.Heard(c.bit); got != c.want {
			t.Errorf("%d heard at bit %d: %d; want %d", c.bit, c.at, got, c.want)
		}
		if c.want != api.Fine {
			over(t, s, f, c.at+1)
		}
	}
}

func TestAlone(t *testing.T) { // P9.3, and what is asked at each bit
	for _, f := range frames() {
		bits, kinds := marked(f)
		slot := slotOf(bits)
		hears(t, f, bits, kinds, with(bits, slot, '0'))
		hears(t, f, bits, kinds, bits)

		s := speaker(t, f)
		for at := 0; s.Heard(s.Bit()) == api.Fine; at++ {
			if at == slot {
				t.Fatalf("%v: nobody answers, and it goes on", f)
			}
		}
		over(t, s, f, slot+1)

		s = speaker(t, f)
		for range wire.Long(f) - 1 {
			heard := s.Bit()
			if s.Sent() == slot {
				heard = 0
			}
			if got := s.Heard(heard); got != api.Fine {
				t.Fatalf("%v at bit %d: %d", f, s.Sent(), got)
			}
		}
		if got := s.Heard(s.Bit()); got != api.Done {
			t.Fatalf("%v at its last bit: %d", f, got)
		}
		over(t, s, f, wire.Long(f))
	}
}

func TestOtherBitHeard(t *testing.T) { // P9.2: at each place
	for _, f := range frames() {
		bits, kinds := marked(f)
		heard := with(bits, slotOf(bits), '0')
		for at := range bits {
			hears(t, f, bits, kinds, flipped(heard[:at+1], at))
		}
	}
}

func TestAnyBitsHeard(t *testing.T) { // P9.2, and P1 of the whole
	chance := rand.New(rand.NewSource(19))
	list := frames()
	for range 20000 {
		f := list[chance.Intn(len(list))]
		bits, kinds := marked(f)
		heard := bits
		for range chance.Intn(4) {
			heard = flipped(heard, chance.Intn(len(bits)))
		}
		if chance.Intn(2) == 0 {
			heard = with(heard, slotOf(bits), '0')
		}
		hears(t, f, bits, kinds, heard)
	}
}

func TestAsksForTheBusAsIdentSays(t *testing.T) { // P9.1: without those that were put between it asks with ident.Bits
	for _, f := range frames() {
		s := speaker(t, f)
		var asked []byte
		alike := 0
		var before byte = 2
		for s.Sent() < wire.Long(f)-9 {
			bit := s.Bit()
			if s.Asking() && alike < 5 {
				asked = append(asked, bit)
			}
			if bit != before {
				alike = 0
			}
			alike++
			before = bit
			s.Heard(bit)
		}
		if want := ident.Bits(f.Id, f.Remote); !slices.Equal(asked, want) {
			t.Fatalf("%v asks with %v; want %v", f, asked, want)
		}
	}
}

// rivals are frames whose identifiers differ from one of a base at each of their bits, that ask and that tell.
func rivals(base uint32) []api.Frame {
	var list []api.Frame
	ids := []api.Ident{short(base), long(base << 18)}
	for at := range 11 {
		ids = append(ids, short(base^1<<at))
	}
	for at := range 29 {
		ids = append(ids, long(base<<18^1<<at))
	}
	for _, id := range ids {
		list = append(list, told(id, 1), asked(id, 2))
	}
	return list
}

// unlike is the first place at which two frames have other bits on the wire.
func unlike(f, g api.Frame) int {
	a, b := wire.Encode(f), wire.Encode(g)
	at := 0
	for a[at] == b[at] {
		at++
	}
	return at
}

// finish makes a speaker hear itself, and 0 in the slot, and answers what it is told at the end.
func finish(s *Speaker) api.Verdict {
	for {
		heard := s.Bit()
		if s.Sent() == wire.Long(s.Frame())-9 {
			heard = 0
		}
		if told := s.Heard(heard); told != api.Fine {
			return told
		}
	}
}

// race has two frames sent at once, and fails unless the second one is told what it ought to be at the first unlike bit, and the first one is sent.
func race(t *testing.T, f, g api.Frame, want api.Verdict) {
	t.Helper()
	a, b := speaker(t, f), speaker(t, g)
	at := unlike(f, g)
	for n := range at + 1 {
		heard := strand.And([]byte{a.Bit()}, []byte{b.Bit()})[0]
		told := api.Fine
		if n == at {
			told = want
		}
		if x, y := a.Heard(heard), b.Heard(heard); x != api.Fine || y != told {
			t.Fatalf("%v and %v, unlike at %d: at %d %d and %d; want 0, %d", f, g, at, n, x, y, told)
		}
	}
	over(t, b, g, at+1)
	if told := finish(a); told != api.Done {
		t.Fatalf("%v, behind %v: %d", f, g, told)
	}
	over(t, a, f, wire.Long(f))
}

func TestTwo(t *testing.T) { // P9.4
	for _, base := range []uint32{0, 0x123, 0x7ff} {
		list := rivals(base)
		for _, f := range list {
			for _, g := range list {
				if ident.Wins(f.Id, f.Remote, g.Id, g.Remote) {
					race(t, f, g, api.Lost)
				}
			}
		}
	}
}

func TestTwoUnlikeInTheirLastBitOnly(t *testing.T) { // P9.4
	for _, c := range []struct {
		f, g api.Frame
		at   int
	}{
		{told(long(0x48c0010)), asked(long(0x48c0010), 0), 34},
		{told(long(0x48c000f)), asked(long(0x48c000f), 0), 34},
		{told(long(0x1fffffff), 255), asked(long(0x1fffffff), 1), 38},
		{asked(short(0x123), 0), told(long(0x48c0000)), 13},
		{asked(short(0x123), 0), asked(long(0x48fffff), 0), 13},
		{told(short(0x123), 10), asked(short(0x123), 1), 12},
		{told(short(0x124)), told(short(0x125)), 11},
	} {
		if at := unlike(c.f, c.g); at != c.at {
			t.Errorf("%v and %v are unlike at %d; want %d", c.f, c.g, at, c.at)
		}
		race(t, c.f, c.g, api.Lost)
	}
}

func TestTwoOfOneIdentifier(t *testing.T) { // P9.2: behind the bits with which they ask nobody loses the bus
	for _, id := range []api.Ident{short(0), short(0x123), short(0x7f8), long(0), long(0x48c0010), long(0x1fffffff)} {
		race(t, told(id, 1), told(id, 2), api.BadBit)
		race(t, told(id), told(id, 0), api.BadBit)
		race(t, asked(id, 3), asked(id, 4), api.BadBit)
		race(t, told(id, 1, 2, 3, 4, 5, 6, 7, 0x10), told(id, 1, 2, 3, 4, 5, 6, 7, 0x11), api.BadBit)
	}
}

func TestTwoOfOneFrame(t *testing.T) { // P9.2: they are alike on the wire
	for _, f := range frames() {
		a, b := speaker(t, f), speaker(t, f)
		for a.Sent() < wire.Long(f)-1 {
			heard := strand.And([]byte{a.Bit()}, []byte{b.Bit()})[0]
			if a.Sent() == wire.Long(f)-9 {
				heard = 0
			}
			if x, y := a.Heard(heard), b.Heard(heard); x != api.Fine || y != api.Fine {
				t.Fatalf("%v twice, at %d: %d, %d", f, a.Sent(), x, y)
			}
		}
		if x, y := a.Heard(1), b.Heard(255); x != api.Done || y != api.Done {
			t.Fatalf("%v twice, at the end: %d, %d", f, x, y)
		}
	}
}

// wired has frames sent at once, while a listener answers, up to the last bit of the one that wins; what each is told at its end.
func wired(t *testing.T, l *listen.Listener, list []api.Frame) []api.Verdict {
	t.Helper()
	told := make([]api.Verdict, len(list))
	var all []*Speaker
	for _, f := range list {
		all = append(all, speaker(t, f))
	}
	for l.Place() != api.Nowhere {
		heard := byte(1)
		if l.Place() == api.InSlot && l.Good() {
			heard = 0
		}
		for _, s := range all {
			heard &= s.Bit()
		}
		event := l.Hear(heard)
		if event != api.Going && event != api.Valid && event != api.Over {
			t.Fatalf("of %v it was told %d", list, event)
		}
		for at, s := range all {
			if v := s.Heard(heard); v != api.Fine {
				told[at] = v
			}
		}
	}
	return told
}

func TestHeardAsTheFrame(t *testing.T) { // P9.5
	for _, f := range frames() {
		l := listen.New()
		told := wired(t, l, []api.Frame{f})
		got, ok := l.Frame()
		if told[0] != api.Done || got != f || !ok || l.Heard() != wire.Long(f) {
			t.Fatalf("%v: %d, heard as %v, %v", f, told[0], got, ok)
		}
	}
}

func TestManyAtOnce(t *testing.T) { // P9.4, P9.5: the one that wins is heard
	chance := rand.New(rand.NewSource(20))
	for range 2000 {
		list := []api.Frame{told(short(0x7ff), 9)}
		for range 1 + chance.Intn(6) {
			base := 0x7c0 | chance.Uint32()>>27
			list = append(list, []api.Frame{told(short(base), 1), asked(short(base), 1), told(long(base<<18|chance.Uint32()>>28), 2), asked(long(base<<18), 3)}[chance.Intn(4)])
		}
		best := list[0]
		for _, f := range list {
			if ident.Wins(f.Id, f.Remote, best.Id, best.Remote) {
				best = f
			}
		}
		l := listen.New()
		for at, v := range wired(t, l, list) {
			want := api.Lost
			if list[at] == best {
				want = api.Done
			}
			if v != want {
				t.Fatalf("of %v, at %d: %d; want %d", list, at, v, want)
			}
		}
		if got, ok := l.Frame(); got != best || !ok {
			t.Fatalf("of %v %v was heard", list, got)
		}
	}
}

func TestSpeakersAreApart(t *testing.T) { // P5 of the whole: each keeps its own bits only
	list := frames()
	for at, f := range list {
		g := list[(at*7+3)%len(list)]
		a, b, c := speaker(t, f), speaker(t, g), speaker(t, f)
		bits, kinds := marked(f)
		b.Heard(0)
		b.Heard(1 - b.Bit())
		c.Heard(1)
		for k := range bits {
			if got, want := asksOf(a), ahead(f, bits, kinds, k); got != want {
				t.Fatalf("%v, ahead of bit %d, behind others: %v; want %v", f, k, got, want)
			}
			b.Heard(byte(k % 2))
			if k == slotOf(bits) {
				a.Heard(0)
			} else {
				a.Heard(a.Bit())
			}
		}
	}
}
