package mac

import (
	"bytes"
	"fmt"
	"math/rand"
	"strings"
	"testing"

	"bellbuoy/api"
	"bellbuoy/count"
	"bellbuoy/ident"
	"bellbuoy/listen"
	"bellbuoy/speak"
	"bellbuoy/wire"
)

func short(n uint32) api.Ident { return api.Ident{N: n} }
func long(n uint32) api.Ident  { return api.Ident{Ext: true, N: n} }

// told is a frame of these bytes, asked one that asks for so many.
func told(id api.Ident, data ...byte) api.Frame {
	f := api.Frame{Id: id, Len: len(data)}
	copy(f.Data[:], data)
	return f
}

func asked(id api.Ident, length int) api.Frame {
	return api.Frame{Id: id, Remote: true, Len: length}
}

// frames are of both sorts, that ask and that tell; of noughts, of ones, and of any bytes.
func frames() []api.Frame {
	chance := rand.New(rand.NewSource(21))
	ids := []api.Ident{short(0), short(0x123), short(0x7f8), short(0x7ff), long(0), long(0x48c0010), long(0x1fffffff)}
	for range 3 {
		ids = append(ids, short(chance.Uint32()>>21), long(chance.Uint32()>>3))
	}
	var list []api.Frame
	for _, id := range ids {
		for _, length := range []int{0, 1, 8} {
			data := make([]byte, length)
			chance.Read(data)
			list = append(list, asked(id, length), told(id, data...), told(id, make([]byte, length)...), told(id, bytes.Repeat([]byte{255}, length)...))
		}
	}
	return list
}

// plain is a frame like others.
var plain = told(short(0x123), 10)

// Bits are letters here.
func ones(n int) string    { return strings.Repeat("1", n) }
func noughts(n int) string { return strings.Repeat("0", n) }

// letters are a frame's bits as they are on the wire when somebody answers.
func letters(f api.Frame) string {
	text := ""
	for _, bit := range wire.Encode(f) {
		text += string('0' + rune(bit))
	}
	return flipped(text, len(text)-9)
}

func flipped(bits string, at int) string {
	return bits[:at] + string('0'+'1'-rune(bits[at])) + bits[at+1:]
}

// steps tells a node bits, and answers what the last one brought.
func steps(m *Mac, bits string) api.Happen {
	h := api.Happen{}
	for at := range bits {
		h = m.Step(bits[at] - '0')
	}
	return h
}

var nothing = api.Happen{}

func wrong(bad api.Bad) api.Happen { return api.Happen{Bad: bad} }

// leg is bits of which the last one alone may bring something: up to it a node stays in its phase, with its counts, and nothing happens; it puts out one bit at all of them.
type leg struct {
	out    byte
	bits   string
	brings api.Happen
	to     api.Phase
	counts api.Counts
}

func walk(t *testing.T, m *Mac, legs ...leg) {
	t.Helper()
	for n, l := range legs {
		phase, counts := m.Phase(), m.Counts()
		for at := range l.bits {
			if got := m.Out(); got != l.out {
				t.Fatalf("leg %d, at bit %d of %s: it puts %d on the wire; want %d", n, at, l.bits, got, l.out)
			}
			want := leg{to: phase, counts: counts}
			if at == len(l.bits)-1 {
				want = l
			}
			h := m.Step(l.bits[at] - '0')
			if h != want.brings || m.Phase() != want.to || m.Counts() != want.counts {
				t.Fatalf("leg %d, bit %d of %s: %v, phase %d, %v; want %v, %d, %v", n, at, l.bits, h, m.Phase(), m.Counts(), want.brings, want.to, want.counts)
			}
		}
	}
}

// ready is a node that was just switched on, behind eleven bits of 1.
func ready(t *testing.T) *Mac {
	t.Helper()
	m := New()
	steps(m, ones(11))
	if m.Phase() != api.Ready {
		t.Fatalf("phase %d behind eleven bits of 1", m.Phase())
	}
	return m
}

// gives a node a frame that it must take.
func gives(t *testing.T, m *Mac, f api.Frame) {
	t.Helper()
	if errno := m.Ask(f); errno != api.OK {
		t.Fatalf("Ask(%v) = %d", f, errno)
	}
}

// calm lets a node hear 1 until it is ready.
func calm(t *testing.T, m *Mac) {
	t.Helper()
	for range 40 {
		if m.Phase() == api.Ready {
			return
		}
		m.Step(1)
	}
	t.Fatalf("phase %d behind 40 bits of 1", m.Phase())
}

// worn is a node that is ready, without a frame, with these counts: it sent and heard what brings them about.
func worn(t *testing.T, tx, rx int) *Mac {
	t.Helper()
	m := ready(t)
	for range (tx + 7) / 8 {
		gives(t, m, plain)
		m.Step(1) // its first bit is another one
		m.Drop()
		calm(t, m)
	}
	for range (8 - tx%8) % 8 {
		gives(t, m, plain)
		steps(m, letters(plain))
		calm(t, m)
	}
	for range rx / 9 {
		steps(m, noughts(6)+noughts(6)+"0"+ones(1))
		calm(t, m)
	}
	for range rx % 9 {
		steps(m, noughts(6))
		calm(t, m)
	}
	if want := (api.Counts{Tx: tx, Rx: rx}); m.Counts() != want {
		t.Fatalf("it counts %v; want %v", m.Counts(), want)
	}
	return m
}

// failed is a node with these counts that tells an error as who sends, which makes its Tx 8 more; its frame is taken away.
func failed(t *testing.T, tx, rx int) (*Mac, api.Counts) {
	t.Helper()
	m := worn(t, tx, rx)
	gives(t, m, plain)
	walk(t, m, leg{0, "1", api.Happen{Began: true, Bad: api.BitError}, api.Flagging, api.Counts{Tx: tx + 8, Rx: rx}})
	if !m.Drop() {
		t.Fatal("it keeps its frame while it tells an error")
	}
	return m, m.Counts()
}

// misled is a node with these counts that tells an error as who hears, which makes its Rx one more.
func misled(t *testing.T, tx, rx int) (*Mac, api.Counts) {
	t.Helper()
	m := worn(t, tx, rx)
	walk(t, m,
		leg{1, "0", nothing, api.Hearing, m.Counts()},
		leg{1, "00000", wrong(api.StuffBad), api.Flagging, api.Counts{Tx: tx, Rx: rx + 1}})
	return m, m.Counts()
}

// delayed is a node with these counts, less one if it sends, that tells an overload at once behind a frame that it sent, or heard.
func delayed(t *testing.T, tx, rx int, sends bool) (*Mac, api.Counts) {
	t.Helper()
	m := worn(t, tx, rx)
	if sends {
		gives(t, m, plain)
	}
	steps(m, letters(plain))
	walk(t, m, leg{1, "0", wrong(api.Overloads), api.Flagging, m.Counts()})
	return m, m.Counts()
}

func TestNew(t *testing.T) { // P11.1, P11.2
	m := New()
	f, ok := m.Asked()
	if m.Phase() != api.Waiting || m.Counts() != (api.Counts{}) || m.Out() != 1 || f != (api.Frame{}) || ok || m.Drop() {
		t.Errorf("new: phase %d, %v, %d, %v, %v", m.Phase(), m.Counts(), m.Out(), f, ok)
	}
}

func TestNil(t *testing.T) { // P11.2
	var m *Mac
	f, ok := m.Asked()
	if m.Ask(plain) != api.ErrState || m.Ask(told(short(2048))) != api.ErrState || m.Drop() || f != (api.Frame{}) || ok {
		t.Error("a nil node has something to send")
	}
	for range 30 {
		for _, bit := range []byte{0, 1, 255} {
			if m.Out() != 1 || m.Step(bit) != nothing || m.Phase() != api.Waiting || m.Counts() != (api.Counts{}) {
				t.Error("a nil node does something")
			}
		}
	}
}

func TestWaiting(t *testing.T) { // P11.2, and the chapter's example
	none := api.Counts{}
	walk(t, New(), leg{1, ones(11), nothing, api.Ready, none})
	for at := range 11 {
		walk(t, New(), leg{1, ones(at) + "0" + ones(11), nothing, api.Ready, none})
		walk(t, New(), leg{1, ones(at) + "0" + ones(10) + "00" + ones(10-at) + "0" + ones(11), nothing, api.Ready, none})
	}
	walk(t, New(), leg{1, noughts(300) + strings.Repeat("10", 300) + strings.Repeat(ones(10)+"0", 30) + ones(11), nothing, api.Ready, none})
}

func TestWaitingHearsNothing(t *testing.T) { // P11.2: whole frames go by, and are not got; behind the last one eleven bits of 1 are just those of its end, and the pause
	m := New()
	whole := letters(plain)
	walk(t, m, leg{1, strings.Repeat(whole+ones(2), 3) + whole + ones(3), nothing, api.Ready, api.Counts{}})
}

func TestReady(t *testing.T) { // P11.2
	m := ready(t)
	for range 100 {
		walk(t, m, leg{1, "1", nothing, api.Ready, api.Counts{}})
	}
	walk(t, m, leg{1, "0", nothing, api.Hearing, api.Counts{}})

	for _, bit := range []string{"0", "1"} { // it begins with the bit that follows
		m = ready(t)
		gives(t, m, plain)
		want := leg{0, bit, api.Happen{Began: true}, api.Sending, api.Counts{}}
		if bit == "1" {
			want = leg{0, bit, api.Happen{Began: true, Bad: api.BitError}, api.Flagging, api.Counts{Tx: 8}}
		}
		walk(t, m, want)
	}
}

// has fails unless a node has just that frame to send, and takes no other one.
func has(t *testing.T, m *Mac, f api.Frame) {
	t.Helper()
	for _, g := range []api.Frame{f, told(short(5)), told(short(2048)), {Len: -1}} {
		if errno := m.Ask(g); errno != api.ErrState {
			t.Fatalf("phase %d: Ask of a second frame, %v: %d", m.Phase(), g, errno)
		}
	}
	if got, ok := m.Asked(); got != f || !ok {
		t.Fatalf("phase %d: Asked() = %v, %v; want %v", m.Phase(), got, ok, f)
	}
}

// hasNone fails unless a node has no frame to send.
func hasNone(t *testing.T, m *Mac) {
	t.Helper()
	if m.Drop() {
		t.Fatalf("phase %d: a frame was taken away that it has not", m.Phase())
	}
	if got, ok := m.Asked(); got != (api.Frame{}) || ok {
		t.Fatalf("phase %d: Asked() = %v, %v", m.Phase(), got, ok)
	}
}

func TestAskOfFramesThatCanNotBe(t *testing.T) { // P11.1
	m := New()
	for _, c := range []struct {
		f    api.Frame
		want api.Errno
	}{
		{told(short(2048)), api.ErrRange},
		{told(long(1 << 29)), api.ErrRange},
		{api.Frame{Id: short(1 << 31), Len: 9}, api.ErrRange},
		{api.Frame{Len: -1}, api.ErrLen},
		{api.Frame{Len: 9}, api.ErrLen},
		{api.Frame{Len: 9, Data: [8]byte{1}, Remote: true}, api.ErrLen},
		{api.Frame{Data: [8]byte{1}}, api.ErrForm},
		{api.Frame{Len: 7, Data: [8]byte{7: 1}}, api.ErrForm},
		{api.Frame{Len: 8, Remote: true, Data: [8]byte{1}}, api.ErrForm},
	} {
		if errno := m.Ask(c.f); errno != c.want {
			t.Errorf("Ask(%v) = %d; want %d", c.f, errno, c.want)
		}
		hasNone(t, m)
	}
	for _, f := range frames() {
		gives(t, m, f)
		has(t, m, f)
		if !m.Drop() {
			t.Fatalf("%v can't be taken away", f)
		}
		hasNone(t, m)
	}
}

// moments are nodes without a frame in each phase but Sending, at each bit of what they hear, and at each one behind.
func moments(t *testing.T) []*Mac {
	list := []*Mac{New(), ready(t)}
	for at := range letters(plain) {
		m := ready(t)
		steps(m, letters(plain)[:at+1])
		list = append(list, m)
	}
	for _, tx := range []int{0, 128} {
		a, _ := failed(t, tx, 0)
		b, _ := misled(t, tx, 0)
		c, _ := delayed(t, tx, 0, true)
		d, _ := delayed(t, tx, 0, false)
		list = append(list, a, b, c, d)
	}
	for n := 1; n < 17; n++ { // ahead of Clearing, Ending and Pausing, and within
		m, _ := misled(t, 0, 0)
		steps(m, ones(n))
		list = append(list, m)
	}
	for n := range 8 {
		m := holding(t)
		steps(m, ones(n))
		list = append(list, m)
	}
	gone, _ := off(t, 0)
	return append(list, gone)
}

func TestAskAtAnyTime(t *testing.T) { // P11.1: what is given while it waits, hears, tells, pauses, holds, or is off waits till it is ready
	for n, m := range moments(t) {
		before, bit := m.Phase(), m.Out()
		counts := m.Counts()
		gives(t, m, plain)
		has(t, m, plain)
		if m.Phase() != before || m.Counts() != counts || m.Out() != bit && before != api.Ready {
			t.Fatalf("moment %d: phase %d, %v, %d behind Ask; want %d, %v, %d", n, m.Phase(), m.Counts(), m.Out(), before, counts, bit)
		}
		if !m.Drop() {
			t.Fatalf("moment %d: it keeps its frame", n)
		}
		hasNone(t, m)
		if m.Phase() != before || m.Counts() != counts || m.Out() != bit {
			t.Fatalf("moment %d: phase %d, %v, %d behind Drop; want %d, %v, %d", n, m.Phase(), m.Counts(), m.Out(), before, counts, bit)
		}
		gives(t, m, plain)
		for k := 0; m.Phase() != api.Ready; k++ {
			if h := m.Step(1); h.Began || k > 1500 {
				t.Fatalf("moment %d: %v in phase %d, %d bits later", n, h, m.Phase(), k)
			}
			has(t, m, plain)
		}
		whole := letters(plain)
		if h := m.Step(0); h != (api.Happen{Began: true}) {
			t.Fatalf("moment %d: it does not begin: %v", n, h)
		}
		if h := steps(m, whole[1:]); h != (api.Happen{Sent: true, Frame: plain}) {
			t.Fatalf("moment %d: it does not send: %v", n, h)
		}
		hasNone(t, m)
	}
}

func TestDropWhileItSends(t *testing.T) { // P11.1, and a second frame meanwhile
	m := ready(t)
	gives(t, m, plain)
	for _, bit := range letters(plain) {
		has(t, m, plain)
		if m.Phase() == api.Sending && m.Drop() {
			t.Fatal("its frame was taken away while it is sent")
		}
		m.Step(byte(bit - '0'))
	}
	hasNone(t, m)
	gives(t, m, told(short(4)))
	has(t, m, told(short(4)))
}

func TestSends(t *testing.T) { // P11.2, P9.3: alone, but for the answer
	for _, f := range frames() {
		m := worn(t, 7, 0)
		gives(t, m, f)
		sent, whole := wire.Encode(f), letters(f)
		for at := range whole {
			want, to, counts := nothing, api.Sending, api.Counts{Tx: 7}
			switch at {
			case 0:
				want.Began = true
			case len(whole) - 1:
				want, to, counts = api.Happen{Sent: true, Frame: f}, api.Pausing, api.Counts{Tx: 6}
			}
			if m.Out() != sent[at] {
				t.Fatalf("%v: it puts %d on the wire at %d", f, m.Out(), at)
			}
			has(t, m, f)
			if h := m.Step(whole[at] - '0'); h != want || m.Phase() != to || m.Counts() != counts {
				t.Fatalf("%v at %d: %v, phase %d, %v; want %v, %d, %v", f, at, h, m.Phase(), m.Counts(), want, to, counts)
			}
		}
		hasNone(t, m)
		walk(t, m, leg{1, ones(3), nothing, api.Ready, api.Counts{Tx: 6}})
	}
}

// hears makes a node that is Ready hear a frame, and fails unless it puts just its answer on the wire, and gets the frame.
func hears(t *testing.T, m *Mac, f api.Frame, after api.Counts) {
	t.Helper()
	whole := letters(f)
	end := len(whole) - 1
	got := api.Happen{Got: true, Frame: f}
	walk(t, m,
		leg{1, whole[:1], nothing, api.Hearing, m.Counts()},
		leg{1, whole[1 : end-8], nothing, api.Hearing, m.Counts()},
		leg{0, "0", nothing, api.Hearing, m.Counts()},
		leg{1, whole[end-7 : end], got, api.Hearing, after},
		leg{1, "1", nothing, api.Pausing, after})
}

func TestHears(t *testing.T) { // P11.2, with RxGood
	for _, f := range frames() {
		m := worn(t, 0, 2)
		hears(t, m, f, api.Counts{Rx: 1})
		walk(t, m, leg{1, ones(3), nothing, api.Ready, api.Counts{Rx: 1}})
		hears(t, m, f, api.Counts{})
		walk(t, m, leg{1, ones(3), nothing, api.Ready, api.Counts{}})
		hears(t, m, f, api.Counts{})
	}
	for _, rx := range []int{127, 128, 129, 255} { // one that is passive answers, too
		after := min(rx-1, 120)
		if rx == 127 {
			after = 126
		}
		m := worn(t, 8, rx)
		hears(t, m, plain, api.Counts{Tx: 8, Rx: after})
		walk(t, m, leg{1, ones(3), nothing, api.Ready, api.Counts{Tx: 8, Rx: after}})
	}
}

func TestHearsWithItsOwnFrameLeft(t *testing.T) { // P11.2: what it has been given while it heard waits
	m := ready(t)
	whole := letters(plain)
	steps(m, whole[:20])
	gives(t, m, told(short(1)))
	if h := steps(m, whole[20:len(whole)-1]); h != (api.Happen{Got: true, Frame: plain}) {
		t.Errorf("it got %v", h)
	}
	walk(t, m,
		leg{1, "1", nothing, api.Pausing, api.Counts{}},
		leg{1, ones(3), nothing, api.Ready, api.Counts{}},
		leg{0, "0", api.Happen{Began: true}, api.Sending, api.Counts{}})
}

// heardAs is what an event ought to bring to a node that hears, and saidAs what a verdict ought to bring to one that sends: what happens, its phase, and its counts.
func heardAs(e api.Event, f api.Frame) (api.Happen, api.Phase, api.Counts) {
	switch e {
	case api.Valid:
		return api.Happen{Got: true, Frame: f}, api.Hearing, api.Counts{}
	case api.Over:
		return nothing, api.Pausing, api.Counts{}
	case api.Late:
		return wrong(api.Overloads), api.Flagging, api.Counts{}
	case api.BadStuff:
		return wrong(api.StuffBad), api.Flagging, api.Counts{Rx: 1}
	case api.BadForm:
		return wrong(api.FormBad), api.Flagging, api.Counts{Rx: 1}
	case api.BadCrc:
		return wrong(api.CrcBad), api.Flagging, api.Counts{Rx: 1}
	}
	return nothing, api.Hearing, api.Counts{}
}

func saidAs(v api.Verdict, f api.Frame) (api.Happen, api.Phase, api.Counts) {
	switch v {
	case api.Done:
		return api.Happen{Sent: true, Frame: f}, api.Pausing, api.Counts{}
	case api.Lost:
		return api.Happen{Lost: true}, api.Hearing, api.Counts{}
	case api.BadBit:
		return wrong(api.BitError), api.Flagging, api.Counts{Tx: 8}
	case api.BadExtra:
		return wrong(api.StuffBad), api.Flagging, api.Counts{}
	case api.NoAck:
		return wrong(api.AckBad), api.Flagging, api.Counts{Tx: 8}
	}
	return nothing, api.Sending, api.Counts{}
}

func TestOtherBitHeard(t *testing.T) { // P11.2: as who hears, at each place of each frame
	for _, f := range frames() {
		whole := letters(f)
		for at := 1; at < len(whole); at++ {
			m, l := ready(t), listen.New()
			for n, letter := range flipped(whole, at) {
				if (m.Out() == 0) != (l.Place() == api.InSlot && l.Good()) {
					t.Fatalf("%v, flipped at %d: it puts %d on the wire at %d", f, at, m.Out(), n)
				}
				want, to, counts := heardAs(l.Hear(byte(letter-'0')), f)
				if h := m.Step(byte(letter - '0')); h != want || m.Phase() != to || m.Counts() != counts {
					t.Fatalf("%v, flipped at %d, at %d: %v, phase %d, %v; want %v, %d, %v", f, at, n, h, m.Phase(), m.Counts(), want, to, counts)
				}
				if to != api.Hearing {
					break
				}
			}
		}
	}
}

func TestOtherBitHeardAsWhoSends(t *testing.T) { // P11.2: at each place of each frame
	for _, f := range frames() {
		whole := letters(f)
		for at := range whole {
			m := ready(t)
			gives(t, m, f)
			s, _ := speak.New(f)
			for n, letter := range flipped(whole, at) {
				if m.Out() != s.Bit() {
					t.Fatalf("%v, flipped at %d: it puts %d on the wire at %d", f, at, m.Out(), n)
				}
				want, to, counts := saidAs(s.Heard(byte(letter-'0')), f)
				want.Began = n == 0
				if h := m.Step(byte(letter - '0')); h != want || m.Phase() != to || m.Counts() != counts {
					t.Fatalf("%v, flipped at %d, at %d: %v, phase %d, %v; want %v, %d, %v", f, at, n, h, m.Phase(), m.Counts(), want, to, counts)
				}
				if to != api.Sending {
					break
				}
			}
			if m.Phase() != api.Pausing {
				has(t, m, f)
			}
		}
	}
}

func TestErrorsWrittenOut(t *testing.T) { // P11.2: 123#0a is 0, 00100100011, 000, 00 1 01, 00001010 and its sum
	none := api.Counts{}
	head := "000100100011" + "000" + "00" + "1" + "01"
	m := ready(t) // a sixth alike bit
	walk(t, m,
		leg{1, "0", nothing, api.Hearing, none},
		leg{1, head[1:17], nothing, api.Hearing, none},
		leg{1, "0", wrong(api.StuffBad), api.Flagging, api.Counts{Rx: 1}})
	whole := letters(plain)
	end := len(whole)
	m = ready(t) // the sum is another one: nobody answers, and the bit behind the slot tells
	walk(t, m,
		leg{1, "0", nothing, api.Hearing, none},
		leg{1, flipped(whole, 21)[1 : end-8], nothing, api.Hearing, none},
		leg{1, "1", wrong(api.CrcBad), api.Flagging, api.Counts{Rx: 1}})
	m = ready(t) // the bit that ends the sum is 0
	steps(m, whole[:end-10])
	walk(t, m, leg{1, "0", wrong(api.FormBad), api.Flagging, api.Counts{Rx: 1}})
	m = ready(t) // its own answer isn't there, which is nothing to it
	steps(m, whole[:end-9])
	walk(t, m, leg{0, "1", nothing, api.Hearing, none}, leg{1, ones(7), api.Happen{Got: true, Frame: plain}, api.Hearing, none})
	m = ready(t) // a 0 as the last bit but one: it gets nothing
	steps(m, whole[:end-2])
	walk(t, m, leg{1, "0", wrong(api.FormBad), api.Flagging, api.Counts{Rx: 1}})
	m = ready(t) // a 0 as the last bit: it has got the frame
	steps(m, whole[:end-1])
	walk(t, m, leg{1, "0", wrong(api.Overloads), api.Flagging, none}, leg{0, ones(6), nothing, api.Clearing, none})

	m = ready(t) // it sends 7f8#: 1 was put between behind its last bit that asks
	gives(t, m, told(short(0x7f8)))
	steps(m, letters(told(short(0x7f8)))[:15])
	walk(t, m, leg{1, "0", wrong(api.StuffBad), api.Flagging, none}, leg{0, ones(6), nothing, api.Clearing, none})
}

// rival is a frame that wins over another one, and the first bit at which both are unlike.
type rival struct {
	loser, winner api.Frame
	at            int
}

// rivals are unlike first at each bit with which frames ask, the first one of all of these and the last one among them.
func rivals() []rival {
	pairs := [][2]api.Frame{
		{told(short(0x400)), told(short(0x3ff))},
		{asked(short(0x123), 0), told(short(0x123), 10)},
		{told(long(0x48c0000)), told(short(0x123))},
		{told(long(0x48c0000)), asked(short(0x123), 2)},
		{asked(long(0x48c0010), 0), told(long(0x48c0010))},
		{asked(long(0x1fffffff), 1), told(long(0x1fffffff), 255)},
	}
	for at := range 11 {
		pairs = append(pairs, [2]api.Frame{told(short(0x2a5|1<<at), 1), told(short(0x2a5&^(1<<at)), 2)})
	}
	for at := range 29 {
		pairs = append(pairs, [2]api.Frame{told(long(0x2345678|1<<at), 1), told(long(0x2345678&^(1<<at)), 2)})
	}
	var list []rival
	for _, p := range pairs {
		if a, b := letters(p[0]), letters(p[1]); ident.Wins(p[1].Id, p[1].Remote, p[0].Id, p[0].Remote) {
			at := 0
			for a[at] == b[at] {
				at++
			}
			list = append(list, rival{p[0], p[1], at})
		}
	}
	return list
}

func TestLost(t *testing.T) { // P11.2: at each bit that asks; it hears on, answers, gets the other one's, and sends its own then
	first, last := false, false
	for _, r := range rivals() {
		first, last = first || r.at == 1, last || r.at >= 34
		m := worn(t, 16, 2)
		counts := api.Counts{Tx: 16, Rx: 2}
		gives(t, m, r.loser)
		mine, whole := letters(r.loser), letters(r.winner)
		for at := range r.at {
			if m.Out() != mine[at]-'0' {
				t.Fatalf("%v: it puts %d on the wire at %d", r, m.Out(), at)
			}
			if h := m.Step(whole[at] - '0'); h != (api.Happen{Began: at == 0}) || m.Phase() != api.Sending {
				t.Fatalf("%v at %d: %v, phase %d", r, at, h, m.Phase())
			}
		}
		end := len(whole) - 1
		walk(t, m, leg{1, whole[r.at : r.at+1], api.Happen{Lost: true}, api.Hearing, counts})
		has(t, m, r.loser)
		counts.Rx--
		walk(t, m,
			leg{1, whole[r.at+1 : end-8], nothing, api.Hearing, m.Counts()},
			leg{0, "0", nothing, api.Hearing, m.Counts()},
			leg{1, whole[end-7 : end], api.Happen{Got: true, Frame: r.winner}, api.Hearing, counts},
			leg{1, "1", nothing, api.Pausing, counts})
		has(t, m, r.loser)
		walk(t, m,
			leg{1, ones(3), nothing, api.Ready, counts},
			leg{0, "0", api.Happen{Began: true}, api.Sending, counts})
		if h := steps(m, mine[1:]); h != (api.Happen{Sent: true, Frame: r.loser}) {
			t.Fatalf("%v: it is not sent behind the other one: %v", r, h)
		}
	}
	if !first || !last {
		t.Error("no frame is lost at the first bit, or at the last one")
	}
}

func TestLostIsWhoHears(t *testing.T) { // P11.2: what is wrong from then on it tells as who hears, and it may be taken its frame
	for _, tx := range []int{0, 128} {
		m := worn(t, tx, 0)
		gives(t, m, told(short(0x124)))
		whole := letters(plain)
		at := 0
		for m.Phase() != api.Hearing {
			m.Step(whole[at] - '0')
			at++
		}
		if !m.Drop() {
			t.Error("it keeps what it has lost")
		}
		steps(m, whole[at:17])
		after := api.Counts{Tx: tx, Rx: 1}
		dear := api.Counts{Tx: tx, Rx: 9}
		out := byte(tx / 128) // one that is passive tells it quietly
		walk(t, m,
			leg{1, "0", wrong(api.StuffBad), api.Flagging, after},
			leg{out, noughts(6), nothing, api.Clearing, after},
			leg{1, "0", nothing, api.Clearing, dear},
			leg{1, "1", nothing, api.Ending, dear},
			leg{1, ones(7), nothing, api.Pausing, dear},
			leg{1, ones(3), nothing, api.Ready, dear}) // never Holding
	}
}

func TestNoAnswer(t *testing.T) { // P11.3: an active one counts it, and is passive behind sixteen; a passive one doesn't
	m := ready(t)
	f := plain
	gives(t, m, f)
	whole := flipped(letters(f), len(letters(f))-9)
	slot := len(whole) - 9
	for try := range 40 {
		before := api.Counts{Tx: min(8*try, 128)}
		after := api.Counts{Tx: min(8*try+8, 128)}
		for at := range slot {
			out := m.Out()
			if h := m.Step(out); h != (api.Happen{Began: at == 0}) || m.Counts() != before || out != whole[at]-'0' {
				t.Fatalf("try %d, at %d: %v, %v", try, at, h, m.Counts())
			}
		}
		walk(t, m, leg{1, "1", wrong(api.AckBad), api.Flagging, after})
		has(t, m, f)
		if try < 15 {
			walk(t, m, leg{0, noughts(6), nothing, api.Clearing, after})
		} else {
			walk(t, m, leg{1, ones(6), nothing, api.Clearing, after})
		}
		walk(t, m,
			leg{1, "1", nothing, api.Ending, after},
			leg{1, ones(7), nothing, api.Pausing, after})
		if try < 15 {
			walk(t, m, leg{1, ones(3), nothing, api.Ready, after})
		} else {
			walk(t, m, leg{1, ones(3), nothing, api.Holding, after}, leg{1, ones(8), nothing, api.Ready, after})
		}
	}
}

func TestAlone(t *testing.T) { // P11.3: it hears itself only
	for _, f := range frames() {
		m := New()
		gives(t, m, f)
		tries := 0
		for range 6000 {
			h := m.Step(m.Out())
			if h.Bad != api.NoBad && h.Bad != api.AckBad || h.Lost || h.Sent || h.Got {
				t.Fatalf("%v: %v", f, h)
			}
			if h.Bad == api.AckBad {
				tries++
			}
		}
		if tries < 30 || m.Counts() != (api.Counts{Tx: 128}) {
			t.Fatalf("%v: %d tries, %v", f, tries, m.Counts())
		}
		has(t, m, f)
	}
}

func TestLoudFlag(t *testing.T) { // P11.2: six bits, whatever is there, as who sends and as who hears
	for n := range 64 {
		bits := fmt.Sprintf("%06b", n)
		a, x := failed(t, 0, 0)
		b, y := misled(t, 0, 0)
		c, z := delayed(t, 0, 0, false)
		walk(t, a, leg{0, bits, nothing, api.Clearing, x})
		walk(t, b, leg{0, bits, nothing, api.Clearing, y})
		walk(t, c, leg{0, bits, nothing, api.Clearing, z})
	}
	for _, sends := range []bool{false, true} { // an overload is loud, if it is passive, too
		m, counts := delayed(t, 140, 0, sends)
		walk(t, m, leg{0, "010111", nothing, api.Clearing, counts})
		m, counts = delayed(t, 0, 255, sends)
		walk(t, m, leg{0, "000001", nothing, api.Clearing, counts})
	}
}

func TestLoudOrQuiet(t *testing.T) { // P11.2: by what it counts behind the error
	for _, tx := range []int{111, 112, 119, 120, 121, 127, 128, 247} {
		m, counts := failed(t, tx, 0)
		out := byte(0)
		if tx >= 120 {
			out = 1
		}
		walk(t, m, leg{out, noughts(6), nothing, api.Clearing, counts})
	}
	for _, rx := range []int{118, 126, 127, 128, 254} {
		m, counts := misled(t, 0, rx)
		out := byte(0)
		if rx >= 127 {
			out = 1
		}
		walk(t, m, leg{out, ones(6), nothing, api.Clearing, counts})
	}
	a, x := misled(t, 128, 0) // the other one of its counts makes it passive, too
	b, y := failed(t, 0, 128)
	walk(t, a, leg{1, ones(6), nothing, api.Clearing, x})
	walk(t, b, leg{1, noughts(6), nothing, api.Clearing, y})
}

// quiet is a node that tells an error as who sends, or as who hears, by which it became passive.
func quiet(t *testing.T, sends bool) (*Mac, api.Counts) {
	t.Helper()
	if sends {
		return failed(t, 120, 0)
	}
	return misled(t, 0, 127)
}

func TestQuietFlag(t *testing.T) { // P11.2: until six alike bits were there, of all strings of ten
	for n := range 1 << 10 {
		bits := fmt.Sprintf("%010b", n)
		m, counts := quiet(t, n%2 == 0)
		for at := range bits {
			if m.Out() != 1 {
				t.Fatalf("%s: it isn't quiet at %d", bits, at)
			}
			h := m.Step(bits[at] - '0')
			six := strings.HasSuffix(bits[:at+1], noughts(6)) || strings.HasSuffix(bits[:at+1], ones(6))
			if h != nothing || m.Counts() != counts || (m.Phase() == api.Clearing) != six || !six && m.Phase() != api.Flagging {
				t.Fatalf("%s at %d: %v, phase %d, %v", bits, at, h, m.Phase(), m.Counts())
			}
			if six {
				break
			}
		}
	}
	for _, sends := range []bool{false, true} {
		m, counts := quiet(t, sends)
		walk(t, m, leg{1, strings.Repeat("01", 50) + strings.Repeat("00000"+"11111", 50) + noughts(6), nothing, api.Clearing, counts})
		m, counts = quiet(t, sends)
		walk(t, m, leg{1, "1" + noughts(5) + ones(6), nothing, api.Clearing, counts})
	}
	a, x := misled(t, 128, 0) // the bit that it told of does not count
	walk(t, a, leg{1, noughts(5) + ones(6), nothing, api.Clearing, x})
	b, y := failed(t, 128, 0)
	walk(t, b, leg{1, ones(5) + noughts(6), nothing, api.Clearing, y})
	c, z := misled(t, 128, 0) // nor what was there behind an earlier flag
	walk(t, c, leg{1, noughts(6), nothing, api.Clearing, z}, leg{1, "1", nothing, api.Ending, z}, leg{1, "0", wrong(api.FormBad), api.Flagging, api.Counts{Tx: 128, Rx: 2}}, leg{1, noughts(6), nothing, api.Clearing, api.Counts{Tx: 128, Rx: 2}})
}

func TestClearing(t *testing.T) { // P11.2: what 0 behind a flag costs, at the first one and at each eighth, and the 1 that ends it, at each place
	for _, start := range [][2]int{{0, 0}, {120, 0}, {0, 127}, {8, 40}} {
		for n := range 35 {
			heard, sent := 0, 0
			if n > 0 {
				heard = 8 + n/8*8
				sent = n / 8 * 8
			}
			m, counts := misled(t, start[0], start[1])
			steps(m, noughts(6))
			clears(t, m, n, func(k int) api.Counts {
				c := counts
				if k > 0 {
					c.Rx += 8 + k/8*8
				}
				c.Rx = min(c.Rx, 255)
				return c
			})
			if m.Counts().Rx != min(counts.Rx+heard, 255) {
				t.Fatalf("%d times 0 behind a flag: %v; want %d more than %v", n, m.Counts(), heard, counts)
			}
			m, counts = failed(t, start[0], start[1])
			steps(m, noughts(6))
			clears(t, m, n, func(k int) api.Counts {
				c := counts
				c.Tx += k / 8 * 8
				return c
			})
			if m.Counts().Tx != counts.Tx+sent {
				t.Fatalf("%d times 0 behind a flag: %v; want %d more than %v", n, m.Counts(), sent, counts)
			}
			for _, sends := range []bool{false, true} { // an overload costs nothing
				m, counts = delayed(t, start[0], start[1], sends)
				steps(m, noughts(6))
				clears(t, m, n, func(int) api.Counts { return counts })
			}
		}
	}
}

// clears has a node in Clearing hear n bits of 0, then 1, and fails unless behind k of them it has the counts that are so.
func clears(t *testing.T, m *Mac, n int, counts func(k int) api.Counts) {
	t.Helper()
	for k := range n {
		walk(t, m, leg{1, "0", nothing, api.Clearing, counts(k + 1)})
	}
	walk(t, m,
		leg{1, "1", nothing, api.Ending, counts(n)},
		leg{1, ones(7), nothing, api.Pausing, counts(n)})
}

func TestClearingBeginsAnew(t *testing.T) { // P11.2: behind each flag the first 0 is the first again, also if it heard at last what it tells, or sent
	m, c := misled(t, 0, 0)
	next := func(rx int) api.Counts { return api.Counts{Rx: rx} }
	walk(t, m,
		leg{0, noughts(6), nothing, api.Clearing, c},
		leg{1, "0", nothing, api.Clearing, next(9)},
		leg{1, noughts(6), nothing, api.Clearing, next(9)},
		leg{1, "1", nothing, api.Ending, next(9)},
		leg{1, "0", wrong(api.FormBad), api.Flagging, next(10)},
		leg{0, noughts(6), nothing, api.Clearing, next(10)},
		leg{1, "0", nothing, api.Clearing, next(18)},
		leg{1, noughts(6), nothing, api.Clearing, next(18)},
		leg{1, "0", nothing, api.Clearing, next(26)},
		leg{1, noughts(7), nothing, api.Clearing, next(26)},
		leg{1, "0", nothing, api.Clearing, next(34)})
}

func TestEnding(t *testing.T) { // P11.2: a 0 at each of the eight but the last one, as who heard and as who sent, behind an error and behind an overload
	for n := 1; n < 7; n++ {
		for _, tx := range []int{0, 160} {
			out := byte(min(tx, 1))
			m, c := misled(t, tx, 5)
			more := api.Counts{Tx: c.Tx, Rx: c.Rx + 1}
			dear := api.Counts{Tx: c.Tx, Rx: c.Rx + 9}
			ends(t, m, n, c, wrong(api.FormBad), more)
			flags(t, m, out, more, dear)

			m, c = failed(t, tx, 5)
			more = api.Counts{Tx: c.Tx + 8, Rx: c.Rx}
			ends(t, m, n, c, wrong(api.FormBad), more)
			flags(t, m, out, more, more)

			m, c = delayed(t, tx, 5, false)
			more = api.Counts{Tx: c.Tx, Rx: c.Rx + 1}
			dear = api.Counts{Tx: c.Tx, Rx: c.Rx + 9}
			ends(t, m, n, c, wrong(api.FormBad), more)
			flags(t, m, out, more, dear)

			m, c = delayed(t, tx, 5, true)
			more = api.Counts{Tx: c.Tx + 8, Rx: c.Rx}
			ends(t, m, n, c, wrong(api.FormBad), more)
			flags(t, m, out, more, more)
		}
	}
}

// ends has a node in Flagging hear six bits of 0, n bits of 1, and a 0 that brings what it says.
func ends(t *testing.T, m *Mac, n int, before api.Counts, brings api.Happen, after api.Counts) {
	t.Helper()
	steps(m, noughts(6))
	walk(t, m, leg{1, "1", nothing, api.Ending, before})
	if n > 1 {
		walk(t, m, leg{1, ones(n - 1), nothing, api.Ending, before})
	}
	walk(t, m, leg{1, "0", brings, api.Flagging, after})
}

// flags has a node hear seven bits of 0 while it tells something; the last one of them makes its counts others, or leaves them.
func flags(t *testing.T, m *Mac, out byte, before, after api.Counts) {
	t.Helper()
	walk(t, m, leg{out, noughts(6), nothing, api.Clearing, before}, leg{1, "0", nothing, api.Clearing, after})
}

func TestEndingAtItsLastBit(t *testing.T) { // P11.2: a 0 as the eighth is an overload, which costs nothing and is loud; who sent stays so
	for _, tx := range []int{0, 160} {
		m, c := misled(t, tx, 5)
		ends(t, m, 7, c, wrong(api.Overloads), c)
		flags(t, m, 0, c, c)
		walk(t, m, leg{1, "1", nothing, api.Ending, c}, leg{1, ones(7), nothing, api.Pausing, c}, leg{1, ones(3), nothing, api.Ready, c})

		m, c = failed(t, tx, 5)
		ends(t, m, 7, c, wrong(api.Overloads), c)
		flags(t, m, 0, c, c)
		last := api.Ready
		if tx > 0 {
			last = api.Holding
		}
		walk(t, m, leg{1, "1", nothing, api.Ending, c}, leg{1, ones(7), nothing, api.Pausing, c}, leg{1, ones(3), nothing, last, c})
	}
}

// paused is a node with these counts, less one if it sends, behind a frame that it sent, or heard: ahead of the three bits.
func paused(t *testing.T, tx, rx int, sends bool) *Mac {
	t.Helper()
	m := worn(t, tx, rx)
	if sends {
		gives(t, m, plain)
	}
	steps(m, letters(plain))
	if m.Phase() != api.Pausing {
		t.Fatalf("phase %d behind a frame", m.Phase())
	}
	return m
}

func TestPausing(t *testing.T) { // P11.2: three bits of 1, a 0 as the first, the second and the third one
	for _, c := range []struct {
		tx, rx int
		sends  bool
		to     api.Phase
	}{
		{0, 0, false, api.Ready},
		{0, 0, true, api.Ready},
		{127, 0, true, api.Ready},
		{128, 0, true, api.Ready}, // what is sent makes it active
		{129, 0, true, api.Holding},
		{0, 128, true, api.Holding},
		{0, 127, true, api.Ready},
		{0, 255, false, api.Ready},
		{128, 0, false, api.Ready},
		{240, 200, false, api.Ready},
	} {
		m := paused(t, c.tx, c.rx, c.sends)
		counts := m.Counts()
		walk(t, m, leg{1, ones(3), nothing, c.to, counts})
		for n := range 2 {
			m = paused(t, c.tx, c.rx, c.sends)
			if n > 0 {
				walk(t, m, leg{1, ones(n), nothing, api.Pausing, counts})
			}
			walk(t, m,
				leg{1, "0", wrong(api.Overloads), api.Flagging, counts},
				leg{0, ones(6), nothing, api.Clearing, counts},
				leg{1, noughts(9) + "1", nothing, api.Ending, counts},
				leg{1, ones(7), nothing, api.Pausing, counts},
				leg{1, ones(3), nothing, c.to, counts}) // who sent stays so
		}
		m = paused(t, c.tx, c.rx, c.sends)
		walk(t, m, leg{1, "11", nothing, api.Pausing, counts}, leg{1, "0", nothing, api.Hearing, counts})
		if h := steps(m, letters(plain)[1:len(letters(plain))-1]); h != (api.Happen{Got: true, Frame: plain}) {
			t.Errorf("what begins with the third bit is not got: %v", h)
		}
		walk(t, m, leg{1, "1", nothing, api.Pausing, m.Counts()}, leg{1, ones(3), nothing, api.Ready, m.Counts()}) // who sent hears now
	}
}

func TestPausingWithAFrame(t *testing.T) { // P11.2: a 0 as the third bit begins another's frame, whatever it has itself
	m := paused(t, 0, 0, true)
	gives(t, m, told(short(1)))
	walk(t, m, leg{1, "11", nothing, api.Pausing, api.Counts{}}, leg{1, "0", nothing, api.Hearing, api.Counts{}})
	has(t, m, told(short(1)))
	walk(t, m, leg{1, "00000", wrong(api.StuffBad), api.Flagging, api.Counts{Rx: 1}})
}

func TestPausingBehindErrors(t *testing.T) { // P11.2: who told an error as who sends pauses as who sent
	m, c := failed(t, 120, 0)
	walk(t, m,
		leg{1, ones(6), nothing, api.Clearing, c},
		leg{1, "1", nothing, api.Ending, c},
		leg{1, ones(7), nothing, api.Pausing, c},
		leg{1, ones(3), nothing, api.Holding, c})
	m, c = misled(t, 128, 0)
	walk(t, m,
		leg{1, ones(6), nothing, api.Clearing, c},
		leg{1, "1", nothing, api.Ending, c},
		leg{1, ones(7), nothing, api.Pausing, c},
		leg{1, ones(3), nothing, api.Ready, c})
}

// holding is a passive node that has sent, without a frame, ahead of the eight bits.
func holding(t *testing.T) *Mac {
	t.Helper()
	m := paused(t, 136, 0, true)
	walk(t, m, leg{1, ones(3), nothing, api.Holding, api.Counts{Tx: 135}})
	return m
}

func TestHolding(t *testing.T) { // P11.2: eight bits of 1, and a 0 at each of them
	counts := api.Counts{Tx: 135}
	walk(t, holding(t), leg{1, ones(8), nothing, api.Ready, counts})
	for n := range 8 {
		for _, with := range []bool{false, true} { // a frame that it has does not change that
			m := holding(t)
			if with {
				gives(t, m, told(short(1)))
			}
			if n > 0 {
				walk(t, m, leg{1, ones(n), nothing, api.Holding, counts})
			}
			walk(t, m, leg{1, "0", nothing, api.Hearing, counts})
			if h := steps(m, letters(plain)[1:len(letters(plain))-1]); h != (api.Happen{Got: true, Frame: plain}) {
				t.Errorf("a frame behind %d bits is not got: %v", n, h)
			}
			walk(t, m, leg{1, "1", nothing, api.Pausing, counts}, leg{1, ones(3), nothing, api.Ready, counts})
		}
	}
	m := holding(t)
	steps(m, "1111")
	gives(t, m, told(short(1)))
	walk(t, m,
		leg{1, ones(4), nothing, api.Ready, counts},
		leg{0, "0", api.Happen{Began: true}, api.Sending, counts})
}

// off is a node that went off the bus as it told an error, without a frame.
func off(t *testing.T, rx int) (*Mac, api.Counts) {
	t.Helper()
	m := worn(t, 248, rx)
	counts := api.Counts{Tx: 256, Rx: rx, Off: true}
	gives(t, m, plain)
	walk(t, m, leg{0, "1", api.Happen{Began: true, Bad: api.BitError}, api.Away, counts})
	m.Drop()
	return m, counts
}

func TestCountsUpToOff(t *testing.T) { // P11.2, and P10.4: passive behind the sixteenth, off behind the thirty-second
	m := ready(t)
	gives(t, m, plain)
	for n := range 31 {
		counts := api.Counts{Tx: 8*n + 8}
		walk(t, m, leg{0, "1", api.Happen{Began: true, Bad: api.BitError}, api.Flagging, counts})
		if want := count.Mode(counts); (m.Out() == 0) != (want == api.Active) {
			t.Fatalf("error %d: it puts %d on the wire", n, m.Out())
		}
		calm(t, m)
	}
	off := api.Counts{Tx: 256, Off: true}
	walk(t, m, leg{0, "1", api.Happen{Began: true, Bad: api.BitError}, api.Away, off})
	has(t, m, plain)
	walk(t, m, leg{1, "1", nothing, api.Away, off})
}

func TestOffByOtherErrors(t *testing.T) { // P11.2: in Clearing by an eighth 0, in Ending by a 0, and within a frame; but not by what costs nothing
	off := api.Counts{Tx: 256, Off: true}
	m, c := failed(t, 240, 0)
	walk(t, m,
		leg{1, noughts(6), nothing, api.Clearing, c},
		leg{1, noughts(7), nothing, api.Clearing, c},
		leg{1, "0", nothing, api.Away, off},
		leg{1, ones(128*11 - 1), nothing, api.Away, off},
		leg{1, "1", nothing, api.Ready, api.Counts{}})
	m, c = failed(t, 240, 0)
	walk(t, m,
		leg{1, noughts(6), nothing, api.Clearing, c},
		leg{1, "1", nothing, api.Ending, c},
		leg{1, "0", wrong(api.FormBad), api.Away, off})
	m = worn(t, 248, 0)
	gives(t, m, plain)
	steps(m, "0001001")
	walk(t, m, leg{0, "1", wrong(api.BitError), api.Away, off})

	m = worn(t, 248, 0)
	gives(t, m, told(short(0x7f8)))
	steps(m, letters(told(short(0x7f8)))[:15])
	walk(t, m, leg{1, "0", wrong(api.StuffBad), api.Flagging, api.Counts{Tx: 248}})
	m = worn(t, 248, 0)
	gives(t, m, plain)
	steps(m, letters(plain)[:len(letters(plain))-9])
	walk(t, m, leg{1, "1", wrong(api.AckBad), api.Flagging, api.Counts{Tx: 248}})
	m, c = misled(t, 248, 0)
	walk(t, m, leg{1, noughts(6), nothing, api.Clearing, c})
	steps(m, noughts(300))
	walk(t, m, leg{1, "0", nothing, api.Clearing, api.Counts{Tx: 248, Rx: 255}})
}

func TestAway(t *testing.T) { // P11.2: back behind 128 times eleven bits of 1
	for _, rx := range []int{0, 130} {
		m, c := off(t, rx)
		walk(t, m, leg{1, ones(128 * 11), nothing, api.Ready, api.Counts{}})
		m, c = off(t, rx)
		walk(t, m,
			leg{1, noughts(100), nothing, api.Away, c},
			leg{1, strings.Repeat(ones(10)+"0", 300), nothing, api.Away, c}, // none of these counts
			leg{1, strings.Repeat(ones(11)+"0", 50) + strings.Repeat(ones(21)+"00", 50), nothing, api.Away, c},
			leg{1, ones(28 * 11), nothing, api.Ready, api.Counts{}})
		m, c = off(t, rx)
		walk(t, m,
			leg{1, ones(127*11+10) + "0", nothing, api.Away, c},
			leg{1, ones(11), nothing, api.Ready, api.Counts{}})
		m, c = off(t, rx)
		walk(t, m,
			leg{1, ones(22) + "0" + ones(32) + "0", nothing, api.Away, c}, // four of them, and ten more
			leg{1, ones(124 * 11), nothing, api.Ready, api.Counts{}})
	}
}

func TestAwayWithAFrame(t *testing.T) { // P11.1, P11.2: it hears and answers nothing; what it has it sends when it is back
	m, c := off(t, 0)
	gives(t, m, plain)
	has(t, m, plain)
	walk(t, m, leg{1, letters(plain) + ones(3) + letters(plain), nothing, api.Away, c})
	steps(m, "0")
	walk(t, m,
		leg{1, ones(127 * 11), nothing, api.Ready, api.Counts{}}, // behind the first frame's answer there were eleven of them
		leg{0, "0", api.Happen{Began: true}, api.Sending, api.Counts{}})
}

func TestOtherBytes(t *testing.T) { // P3 of the whole: a byte that is not 0 is 1
	for _, f := range frames() {
		for _, one := range []byte{2, 3, 48, 128, 254, 255} {
			a, b, c, d := New(), New(), New(), New()
			gives(t, a, f)
			gives(t, b, f)
			wait := 0
			for at, letter := range ones(11) + letters(f) + ones(5) + letters(f) + noughts(20) + ones(60) {
				bit, other := byte(letter-'0'), byte(letter-'0')*one
				if a.Step(bit) != b.Step(other) || c.Step(bit) != d.Step(other) {
					t.Fatalf("%v: %d is another bit than 1 at %d", f, one, at)
				}
				if a.Phase() != b.Phase() || c.Phase() != d.Phase() || a.Counts() != b.Counts() || c.Counts() != d.Counts() || a.Out() != b.Out() || c.Out() != d.Out() {
					t.Fatalf("%v: behind %d at %d phases %d and %d, %d and %d", f, one, at, a.Phase(), b.Phase(), c.Phase(), d.Phase())
				}
				if a.Phase() == api.Waiting {
					wait++
				}
			}
			if wait != 10 {
				t.Fatalf("it waits for %d bits", wait+1)
			}
		}
	}
	m, c := quiet(t, true)
	for _, bit := range []byte{1, 255, 2, 128, 7} {
		m.Step(bit)
	}
	walk(t, m, leg{1, "1", nothing, api.Clearing, c})
	m.Step(200)
	if m.Phase() != api.Ending {
		t.Errorf("phase %d behind a bit of 1", m.Phase())
	}
}

func TestQuietAlone(t *testing.T) { // P11.4
	m := New()
	for at := range 100000 {
		if m.Out() != 1 || m.Step(1) != nothing || m.Counts() != (api.Counts{}) || (m.Phase() == api.Ready) != (at >= 10) {
			t.Fatalf("at %d: phase %d", at, m.Phase())
		}
	}
}

// pair has two nodes on one wire for a bit.
func pair(a, b *Mac) (api.Happen, api.Happen) {
	bit := a.Out() & b.Out()
	return a.Step(bit), b.Step(bit)
}

func TestTwo(t *testing.T) { // P11.5
	for _, f := range frames() {
		a, b := New(), New()
		gives(t, a, f)
		got := 11 + wire.Long(f) - 1
		for at := 1; at <= 300; at++ {
			x, y := pair(a, b)
			wantX, wantY := api.Happen{Began: at == 12}, nothing
			if at == got {
				wantY = api.Happen{Got: true, Frame: f}
			}
			if at == got+1 {
				wantX = api.Happen{Sent: true, Frame: f}
			}
			if x != wantX || y != wantY || a.Counts() != (api.Counts{}) || b.Counts() != (api.Counts{}) {
				t.Fatalf("%v behind %d bits: %v, %v; want %v, %v", f, at, x, y, wantX, wantY)
			}
		}
		if a.Phase() != api.Ready || b.Phase() != api.Ready {
			t.Fatalf("%v: phases %d, %d", f, a.Phase(), b.Phase())
		}
		hasNone(t, a)
	}
}

func TestTwoOfOneIdentifier(t *testing.T) { // P11.2: behind the bits that ask who puts 1 and hears 0 tells an error
	f, g := told(short(9), 1), told(short(9), 3)
	first, second := letters(f), letters(g)
	unlike := 0
	for first[unlike] == second[unlike] {
		unlike++
	}
	a, b := ready(t), ready(t)
	gives(t, a, f)
	gives(t, b, g)
	for at := range unlike {
		if x, y := pair(a, b); x != (api.Happen{Began: at == 0}) || x != y {
			t.Fatalf("at %d: %v, %v", at, x, y)
		}
	}
	if x, y := pair(a, b); x != nothing || y != wrong(api.BitError) || a.Phase() != api.Sending || b.Counts() != (api.Counts{Tx: 8}) {
		t.Fatalf("at %d: %v, %v", unlike, x, y)
	}
	for a.Phase() == api.Sending {
		if x, y := pair(a, b); y != nothing || x != nothing && x != wrong(api.BitError) {
			t.Fatalf("behind that: %v, %v", x, y)
		}
	}
	has(t, a, f)
	has(t, b, g)
}

func TestNodesAreApart(t *testing.T) { // P5 of the whole
	a, b, c := ready(t), ready(t), ready(t)
	gives(t, a, plain)
	gives(t, c, told(short(0x7ff)))
	whole := letters(plain)
	for at := range whole {
		x := a.Step(whole[at] - '0')
		b.Step(0)
		y := c.Step(c.Out())
		if x.Bad != api.NoBad || a.Counts() != (api.Counts{}) || x.Got || y.Got {
			t.Fatalf("at %d: %v, %v, %v", at, x, y, a.Counts())
		}
	}
	hasNone(t, a)
	hasNone(t, b)
	has(t, c, told(short(0x7ff)))
}
