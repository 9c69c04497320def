package listen

import (
	"bytes"
	"math/rand"
	"slices"
	"strings"
	"testing"

	"bellbuoy/api"
	"bellbuoy/crc"
	"bellbuoy/frame"
	"bellbuoy/stuff"
	"bellbuoy/wire"
)

func short(n uint32) api.Ident { return api.Ident{N: n} }
func long(n uint32) api.Ident  { return api.Ident{Ext: true, N: n} }

// told is a frame of these bytes, asked one that asks for so many.
func told(id api.Ident, data ...byte) api.Frame {
	f := api.Frame{Id: id, Len: len(data)}
	copy(f.Data[:], data)
	return f
}

func asked(id api.Ident, length int) api.Frame {
	return api.Frame{Id: id, Remote: true, Len: length}
}

// frames are of both sorts, of each Len, that ask and that tell; of noughts, of ones, and of any bytes; and some of each sort whose last five bits are alike.
func frames() []api.Frame {
	chance := rand.New(rand.NewSource(15))
	ids := []api.Ident{short(0), short(0x123), short(0x7ff), long(0), long(0x123 << 18), long(0x1fffffff)}
	for range 4 {
		ids = append(ids, short(chance.Uint32()>>21), long(chance.Uint32()>>3))
	}
	list := closing()
	for _, id := range ids {
		for length := range 9 {
			data := make([]byte, length)
			chance.Read(data)
			list = append(list, asked(id, length), told(id, data...), told(id, make([]byte, length)...), told(id, bytes.Repeat([]byte{255}, length)...))
		}
	}
	return list
}

// closing is frames behind whose body's last bit one more is due: of each sort, Remote and not, two with 0 there and two with 1.
func closing() []api.Frame {
	type kind struct {
		ext, remote bool
		last        byte
	}
	found := map[kind]int{}
	var list []api.Frame
	for n := range uint32(2048) {
		for _, f := range []api.Frame{told(short(n), 1), asked(short(n), 8), told(long(n<<9), 1), asked(long(n<<9), 0)} {
			b := stuff.Stuff(frame.Body(f))
			k := kind{f.Id.Ext, f.Remote, b[len(b)-1]}
			if dueLast(f) && found[k] < 2 {
				found[k]++
				list = append(list, f)
			}
		}
	}
	return list
}

// dueLast tells whether a frame has a bit put in behind its body's last one.
func dueLast(f api.Frame) bool {
	b := frame.Body(f)
	return len(stuff.Stuff(b)) == len(stuff.Stuff(b[:len(b)-1]))+2
}

// raw is bits with bytes beside 0 and 1 for the ones.
func raw(bits []byte) []byte {
	others := []byte{255, 2, 128, 3, 48, 16}
	b := slices.Clone(bits)
	for at, v := range b {
		if v != 0 {
			b[at] = others[at%len(others)]
		}
	}
	return b
}

// with is the bits with another one at a place.
func with(bits []byte, at int) []byte {
	b := slices.Clone(bits)
	b[at] = 1 - min(b[at], 1)
	return b
}

func bitsOf(s string) []byte {
	b := make([]byte, len(s))
	for at := range s {
		b[at] = s[at] - '0'
	}
	return b
}

// state is all that a listener tells when it is asked.
type state struct {
	place api.Place
	good  bool
	f     api.Frame
	ok    bool
	heard int
}

func asks(l *Listener) state {
	f, ok := l.Frame()
	return state{l.Place(), l.Good(), f, ok, l.Heard()}
}

// track is what a listener ought to tell behind k bits of the wire, of which a body, and what was put into it, are so many.
func track(body, k int, f api.Frame, good bool) state {
	s := state{place: api.InBody, heard: k}
	switch behind := k - body; {
	case behind == 10:
		s.place = api.Nowhere
	case behind > 2:
		s.place = api.InEnd
	case behind >= 0:
		s.place = api.InDelim + api.Place(behind)
	}
	s.good = good && k >= body && s.place != api.Nowhere
	if k >= body+9 {
		s.f, s.ok = f, true
	}
	return s
}

// wanted is what a listener ought to tell of each of these bits, by what wire.Decode makes of them.
func wanted(b []byte) []api.Event {
	events := make([]api.Event, len(b))
	_, at, errno := wire.Decode(b)
	switch errno {
	case api.OK:
		events[at-2], events[at-1] = api.Valid, api.Over
		return events
	case api.ErrLen: // it may be the last bit only that is missing
		if _, _, errno := wire.Decode(append(slices.Clone(b), 1)); errno == api.OK {
			events[len(b)-1] = api.Valid
		}
		return events
	case api.ErrStuff:
		events[at] = api.BadStuff
		return events
	case api.ErrCrc:
		events[at] = api.BadCrc
		return events
	}
	events[at] = api.BadForm
	if _, n, errno := wire.Decode(with(b[:at+1], at)); errno == api.OK && n == at+1 {
		events[at-1], events[at] = api.Valid, api.Late
	}
	return events
}

// noise is what may be heard behind the end.
var noise = []byte{0, 0, 0, 0, 0, 0, 1, 1, 1, 1, 1, 1, 1, 1, 1, 1, 1, 1, 0, 1, 255, 0, 7}

// hear gives a listener bits, and answers what it told of them.
func hear(l *Listener, b []byte) []api.Event {
	var events []api.Event
	for _, bit := range b {
		events = append(events, l.Hear(bit))
	}
	return events
}

// deaf fails unless nothing that is heard changes anything any more.
func deaf(t *testing.T, l *Listener) {
	t.Helper()
	before := asks(l)
	if before.place != api.Nowhere || before.good {
		t.Fatalf("behind the end: %v", before)
	}
	for at, event := range hear(l, noise) {
		if event != api.Going {
			t.Fatalf("bit %d behind the end: %d", at, event)
		}
	}
	if after := asks(l); after != before {
		t.Fatalf("bits behind the end made %v of %v", after, before)
	}
}

func TestNew(t *testing.T) { // P8.1, P8.2
	if got := asks(New()); got != (state{place: api.InBody}) {
		t.Errorf("a new listener: %v", got)
	}
	a, b := New(), New()
	a.Hear(0)
	if got := asks(b); a == b || got != (state{place: api.InBody}) {
		t.Errorf("a new listener, behind a bit that another one heard: %v", got)
	}
}

func TestNilListener(t *testing.T) { // P8.2
	var l *Listener
	for range 3 {
		if got := asks(l); got != (state{place: api.Nowhere}) {
			t.Errorf("a nil listener: %v", got)
		}
		for _, bit := range []byte{0, 1, 255} {
			if got := l.Hear(bit); got != api.Going {
				t.Errorf("a nil listener hears %d: %d", bit, got)
			}
		}
	}
}

func TestZeroListener(t *testing.T) { // P1 of the whole: one that New did not make hears, too
	f := told(short(0x123), 10)
	l := &Listener{}
	events := hear(l, wire.Encode(f))
	if got := asks(l); events[len(events)-1] != api.Over || got.f != f || !got.ok {
		t.Errorf("an empty listener heard %v: %v", events, got)
	}
}

func TestFrameWrittenOut(t *testing.T) { // P8.1, P8.2, bit by bit
	body := "000100100011" + "00000" + "1" + "0" + "1" + "00001010" + "101101011001011"
	f := told(short(0x123), 10)
	l := New()
	for at, bit := range bitsOf(body) {
		if got := asks(l); got != (state{place: api.InBody, heard: at}) {
			t.Fatalf("ahead of bit %d: %v", at, got)
		}
		if got := l.Hear(bit); got != api.Going {
			t.Fatalf("bit %d: %d", at, got)
		}
	}
	n := len(body)
	for _, c := range []struct {
		bit   byte
		ahead state
		event api.Event
	}{
		{1, state{api.InDelim, true, api.Frame{}, false, n}, api.Going},
		{0, state{api.InSlot, true, api.Frame{}, false, n + 1}, api.Going},
		{1, state{api.InAck, true, api.Frame{}, false, n + 2}, api.Going},
		{1, state{api.InEnd, true, api.Frame{}, false, n + 3}, api.Going},
		{1, state{api.InEnd, true, api.Frame{}, false, n + 4}, api.Going},
		{1, state{api.InEnd, true, api.Frame{}, false, n + 5}, api.Going},
		{1, state{api.InEnd, true, api.Frame{}, false, n + 6}, api.Going},
		{1, state{api.InEnd, true, api.Frame{}, false, n + 7}, api.Going},
		{1, state{api.InEnd, true, api.Frame{}, false, n + 8}, api.Valid},
		{1, state{api.InEnd, true, f, true, n + 9}, api.Over},
		{1, state{api.Nowhere, false, f, true, n + 10}, api.Going},
		{0, state{api.Nowhere, false, f, true, n + 10}, api.Going},
	} {
		if got := asks(l); got != c.ahead {
			t.Errorf("ahead of bit %d: %v; want %v", c.ahead.heard, got, c.ahead)
		}
		if got := l.Hear(c.bit); got != c.event {
			t.Errorf("bit %d: %d; want %d", c.ahead.heard, got, c.event)
		}
	}
	deaf(t, l)
}

func TestAsItIsRead(t *testing.T) { // P8.3, and P8.2 at each bit; the slot with 0 and with 1
	dues := 0
	for _, f := range frames() {
		if dueLast(f) {
			dues++
		}
		bits := wire.Encode(f)
		for _, b := range [][]byte{bits, with(bits, len(bits)-9), raw(bits), raw(with(bits, len(bits)-9))} {
			l := New()
			for at, bit := range b {
				if got, want := asks(l), track(len(b)-10, at, f, true); got != want {
					t.Fatalf("%v ahead of bit %d of %d: %v; want %v", f, at, len(b), got, want)
				}
				want := api.Going
				switch at {
				case len(b) - 2:
					want = api.Valid
				case len(b) - 1:
					want = api.Over
				}
				if got := l.Hear(bit); got != want {
					t.Fatalf("%v: bit %d of %d: %d; want %d", f, at, len(b), got, want)
				}
			}
			if got, want := asks(l), track(len(b)-10, len(b), f, true); got != want {
				t.Fatalf("%v, all bits heard: %v; want %v", f, got, want)
			}
			deaf(t, l)
		}
	}
	if dues < 16 {
		t.Errorf("%d frames with a bit due behind the last one", dues)
	}
}

func TestFirstBitOfOne(t *testing.T) { // P8.1, and the chapter's example
	for _, bit := range []byte{1, 2, 128, 255} {
		l := New()
		if got := l.Hear(bit); got != api.BadForm {
			t.Errorf("a first bit of %d: %d", bit, got)
		}
		if got := asks(l); got != (state{place: api.Nowhere, heard: 1}) {
			t.Errorf("behind a first bit of %d: %v", bit, got)
		}
		deaf(t, l)
	}
}

// stops fails unless a listener tells of these bits just one thing, of the last one, and is as it ought to be then.
func stops(t *testing.T, b []byte, want api.Event) {
	t.Helper()
	l := New()
	for at, got := range hear(l, b) {
		if at < len(b)-1 && got != api.Going || at == len(b)-1 && got != want {
			t.Fatalf("bit %d of %v: %d; want %d at the last one", at, b, got, want)
		}
	}
	if got := asks(l); got != (state{place: api.Nowhere, heard: len(b)}) {
		t.Fatalf("behind %v: %v", b, got)
	}
	deaf(t, l)
}

func TestBitsPutBetweenFlipped(t *testing.T) { // P8.1: also the one that is due behind the last bit
	for _, f := range frames() {
		b := stuff.Stuff(frame.Body(f))
		for at := 5; at < len(b); at++ {
			if five := b[at-5 : at]; slices.Min(five) == slices.Max(five) {
				stops(t, with(b, at)[:at+1], api.BadStuff)
				stops(t, raw(with(b, at)[:at+1]), api.BadStuff)
			}
		}
	}
}

func TestSixAlikeBits(t *testing.T) { // P8.1, P8.4: at each place of a body
	for _, f := range frames() {
		whole := wire.Encode(f)
		for at := range len(whole) - 15 {
			for _, bit := range []byte{0, 1} {
				b := slices.Clone(whole)
				copy(b[at:], bytes.Repeat([]byte{bit}, 6))
				if got, want := hear(New(), b), wanted(b); !slices.Equal(got, want) {
					t.Fatalf("%v: %v; want %v", b, got, want)
				}
			}
		}
	}
}

func TestSumWithOneBitChanged(t *testing.T) { // P8.1, P8.2: it is told behind the slot, and it isn't Good
	for _, f := range frames() {
		whole := frame.Body(f)
		for at := len(whole) - 15; at < len(whole); at++ {
			body := stuff.Stuff(with(whole, at))
			for _, tail := range []string{"111", "101"} {
				b := append(slices.Clone(body), bitsOf(tail)...)
				l := New()
				for k, bit := range b {
					if got, want := asks(l), track(len(body), k, f, false); got != want {
						t.Fatalf("%v, bit %d changed, ahead of bit %d: %v; want %v", f, at, k, got, want)
					}
					l.Hear(bit)
				}
				stops(t, b, api.BadCrc)
				stops(t, raw(b), api.BadCrc)
			}
			stops(t, append(slices.Clone(body), 0), api.BadForm)
			stops(t, append(slices.Clone(body), 1, 0, 0), api.BadForm)
			stops(t, append(slices.Clone(body), 1, 1, 0), api.BadForm)
		}
	}
}

func TestOneOfTheTenFlipped(t *testing.T) { // P8.1; the last one is Late, and the frame stays
	for _, f := range frames() {
		whole := wire.Encode(f)
		body := len(whole) - 10
		for _, n := range []int{0, 2, 3, 4, 5, 6, 7, 8} {
			stops(t, with(whole, body+n)[:body+n+1], api.BadForm)
		}
		for _, slot := range []byte{0, 1} {
			b := with(whole, body+9)
			b[body+1] = slot
			l := New()
			events := hear(l, b)
			want := make([]api.Event, len(b))
			want[body+8], want[body+9] = api.Valid, api.Late
			if !slices.Equal(events, want) {
				t.Fatalf("%v with a last bit of 0: %v", f, events)
			}
			if got, want := asks(l), (state{api.Nowhere, false, f, true, len(b)}); got != want {
				t.Fatalf("%v with a last bit of 0: %v; want %v", f, got, want)
			}
			deaf(t, l)
		}
	}
}

func TestBitsThatAreAFrames(t *testing.T) { // P8.2, by P6.2: a Len above 8
	ones := told(short(0x123), 1, 1, 1, 1, 1, 1, 1, 1)
	eight := strings.Repeat("00000001", 8)
	for _, c := range []struct {
		s string
		f api.Frame
	}{
		{"000100100011" + "000" + "1000" + eight, ones},
		{"000100100011" + "000" + "1001" + eight, ones},
		{"000100100011" + "000" + "1111" + eight, ones},
		{"000100100011" + "001" + "1111" + eight, ones},
		{"000100100011" + "100" + "1111", asked(short(0x123), 8)},
		{"000100100011" + "11" + strings.Repeat("0", 18) + "1" + "11" + "1010", asked(long(0x123<<18), 8)},
		{"000100100011" + "01" + strings.Repeat("0", 18) + "0" + "10" + "0000", told(long(0x123 << 18))},
	} {
		b := append(stuff.Stuff(crc.Seal(bitsOf(c.s))), bitsOf("1011111111")...)
		l := New()
		events := hear(l, b)
		if got, want := asks(l), (state{api.Nowhere, false, c.f, true, len(b)}); got != want || events[len(b)-1] != api.Over {
			t.Errorf("%s: %v; want %v", c.s, got, want)
		}
	}
}

func TestAnyBitFlipped(t *testing.T) { // P8.4
	for _, f := range frames() {
		whole := wire.Encode(f)
		for at := range whole {
			b := append(with(whole, at), noise...)
			if got, want := hear(New(), b), wanted(b); !slices.Equal(got, want) {
				t.Fatalf("%v with bit %d flipped: %v; want %v", f, at, got, want)
			}
		}
	}
}

func TestWhatIsCut(t *testing.T) { // P8.4: nothing is bad where bits are missing
	for _, f := range frames() {
		whole := wire.Encode(f)
		for n := range whole {
			if got, want := hear(New(), whole[:n]), wanted(whole[:n]); !slices.Equal(got, want) {
				t.Fatalf("the first %d bits of %v: %v; want %v", n, f, got, want)
			}
		}
	}
}

// changed is bits behind some changes: other ones, more of them, fewer.
func changed(chance *rand.Rand, bits []byte) []byte {
	b := slices.Clone(bits)
	for range chance.Intn(4) {
		if len(b) == 0 {
			return b
		}
		at := chance.Intn(len(b))
		switch chance.Intn(5) {
		case 0:
			b = slices.Delete(b, at, at+1)
		case 1:
			b = slices.Insert(b, at, byte(chance.Intn(2)))
		case 2:
			b = b[:at]
		default:
			b[at] ^= 1
		}
	}
	return b
}

// few fails unless one thing at most was told, but for Valid and one behind; which may be Over or Late only.
func few(t *testing.T, b []byte, events []api.Event) {
	t.Helper()
	told := slices.DeleteFunc(slices.Clone(events), func(e api.Event) bool { return e == api.Going })
	if len(told) > 2 || len(told) == 2 && (told[0] != api.Valid || told[1] != api.Over && told[1] != api.Late) {
		t.Fatalf("of %v it was told %v", b, told)
	}
	if len(told) == 1 && (told[0] == api.Over || told[0] == api.Late) {
		t.Fatalf("of %v it was told %v, and Valid never", b, told)
	}
}

func TestChangedBits(t *testing.T) { // P8.4, P8.5
	chance := rand.New(rand.NewSource(16))
	list := frames()
	seen := map[api.Event]int{}
	for range 40000 {
		f := list[chance.Intn(len(list))]
		b := append(stuff.Stuff(changed(chance, frame.Body(f))), bitsOf("1111111111")...)
		if chance.Intn(2) == 0 {
			b = changed(chance, b)
		}
		got, want := hear(New(), raw(b)), wanted(b)
		if !slices.Equal(got, want) {
			t.Fatalf("%v: %v; want %v", b, got, want)
		}
		few(t, b, got)
		for _, event := range got {
			seen[event]++
		}
	}
	if len(seen) != 7 {
		t.Errorf("only these were told: %v", seen)
	}
}

func TestAnyBits(t *testing.T) { // P8.4, P8.5, and P1 of the whole
	chance := rand.New(rand.NewSource(17))
	for range 60000 {
		b := make([]byte, chance.Intn(200))
		often, last := 1+chance.Intn(6), byte(0)
		for at := range b {
			if at > 0 && chance.Intn(often) == 0 {
				last ^= 1
			}
			b[at] = last
		}
		got, want := hear(New(), raw(b)), wanted(b)
		if !slices.Equal(got, want) {
			t.Fatalf("%v: %v; want %v", b, got, want)
		}
		few(t, b, got)
	}
}

func TestListenersAreApart(t *testing.T) { // P5 of the whole: each keeps its own bits only
	list := frames()
	for at, f := range list {
		g := list[(at*7+3)%len(list)]
		l, m := New(), New()
		a, b := wire.Encode(f), wire.Encode(g)
		for k := range max(len(a), len(b)) {
			if k < len(a) {
				l.Hear(a[k])
			}
			if k < len(b) {
				m.Hear(b[k])
			}
		}
		if x, y := asks(l), asks(m); x.f != f || y.f != g || x.heard != len(a) || y.heard != len(b) {
			t.Fatalf("of %v and %v, bit by bit in turn: %v and %v", f, g, x, y)
		}
	}
}
