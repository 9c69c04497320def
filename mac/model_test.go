package mac

import (
	"math/rand"
	"strings"
	"testing"

	"bellbuoy/api"
	"bellbuoy/count"
	"bellbuoy/listen"
	"bellbuoy/speak"
	"bellbuoy/wire"
)

// model is a node as the chapter's words have it: it keeps the letters of all bits of its phase, and asks what they are like.
type model struct {
	phase            api.Phase
	seen             string
	counts           api.Counts
	frame            api.Frame
	has              bool
	l                *listen.Listener
	s                *speak.Speaker
	sent, err, quiet bool
}

func (m *model) to(p api.Phase) { m.phase, m.seen = p, "" }

// tell is a node that tells something: an error if err, behind the counting.
func (m *model) tell(bad api.Bad, err bool) api.Happen {
	m.err = err
	m.quiet = err && count.Mode(m.counts) == api.Passive
	m.to(api.Flagging)
	m.leave()
	return api.Happen{Bad: bad}
}

// leave takes a node off the bus that has counted too much.
func (m *model) leave() {
	if m.counts.Off {
		m.to(api.Away)
	}
}

func (m *model) begin(bit byte) api.Happen {
	m.l, m.sent = listen.New(), false
	m.to(api.Hearing)
	return m.listened(m.l.Hear(bit))
}

func (m *model) listened(e api.Event) api.Happen {
	bad := map[api.Event]api.Bad{api.BadStuff: api.StuffBad, api.BadForm: api.FormBad, api.BadCrc: api.CrcBad}[e]
	switch {
	case e == api.Valid:
		m.counts = count.RxGood(m.counts)
		f, _ := m.l.Frame()
		return api.Happen{Got: true, Frame: f}
	case e == api.Over:
		m.to(api.Pausing)
	case e == api.Late:
		return m.tell(api.Overloads, false)
	case bad != api.NoBad:
		m.counts = count.RxFail(m.counts, 1)
		return m.tell(bad, true)
	}
	return api.Happen{}
}

func (m *model) spoken(bit byte) api.Happen {
	event := m.l.Hear(bit)
	switch m.s.Heard(bit) {
	case api.Done:
		m.counts, m.has = count.TxGood(m.counts), false
		m.to(api.Pausing)
		return api.Happen{Sent: true, Frame: m.frame}
	case api.Lost:
		m.sent = false
		m.to(api.Hearing)
		h := m.listened(event)
		h.Lost = true
		return h
	case api.BadBit:
		m.counts = count.TxFail(m.counts)
		return m.tell(api.BitError, true)
	case api.BadExtra:
		return m.tell(api.StuffBad, true)
	case api.NoAck:
		if count.Mode(m.counts) == api.Active {
			m.counts = count.TxFail(m.counts)
		}
		return m.tell(api.AckBad, true)
	}
	return api.Happen{}
}

func (m *model) out() byte {
	zero := m.phase == api.Ready && m.has ||
		m.phase == api.Sending && m.s.Bit() == 0 ||
		m.phase == api.Hearing && m.l.Place() == api.InSlot && m.l.Good() ||
		m.phase == api.Flagging && !m.quiet
	if zero {
		return 0
	}
	return 1
}

func (m *model) step(bit byte) api.Happen {
	m.seen += string('0' + rune(bit))
	n := len(m.seen)
	zeros := strings.Count(m.seen, "0")
	switch m.phase {
	case api.Waiting:
		if strings.HasSuffix(m.seen, ones(11)) {
			m.to(api.Ready)
		}
	case api.Ready:
		if m.has {
			m.s, _ = speak.New(m.frame)
			m.l, m.sent = listen.New(), true
			m.to(api.Sending)
			h := m.spoken(bit)
			h.Began = true
			return h
		}
		if bit == 0 {
			return m.begin(bit)
		}
		m.seen = ""
	case api.Hearing:
		return m.listened(m.l.Hear(bit))
	case api.Sending:
		return m.spoken(bit)
	case api.Flagging:
		if !m.quiet && n == 6 || m.quiet && (strings.HasSuffix(m.seen, ones(6)) || strings.HasSuffix(m.seen, noughts(6))) {
			m.to(api.Clearing)
		}
	case api.Clearing:
		if bit == 1 {
			m.to(api.Ending)
			m.seen = "1"
			return api.Happen{}
		}
		m.cleared(n)
	case api.Ending:
		if bit == 0 && n == 8 {
			return m.tell(api.Overloads, false)
		}
		if bit == 0 && m.sent {
			m.counts = count.TxFail(m.counts)
			return m.tell(api.FormBad, true)
		}
		if bit == 0 {
			m.counts = count.RxFail(m.counts, 1)
			return m.tell(api.FormBad, true)
		}
		if n == 8 {
			m.to(api.Pausing)
		}
	case api.Pausing:
		if m.seen == "110" {
			return m.begin(bit)
		}
		if zeros > 0 {
			return m.tell(api.Overloads, false)
		}
		if n == 3 && m.sent && count.Mode(m.counts) == api.Passive {
			m.to(api.Holding)
		} else if n == 3 {
			m.to(api.Ready)
		}
	case api.Holding:
		if zeros > 0 {
			return m.begin(bit)
		}
		if n == 8 {
			m.to(api.Ready)
		}
	case api.Away:
		times := 0
		for _, run := range strings.Split(m.seen, "0") {
			times += len(run) / 11
		}
		if times == 128 {
			m.counts = api.Counts{}
			m.to(api.Ready)
		}
	}
	return api.Happen{}
}

// cleared counts the nth 0 behind a flag.
func (m *model) cleared(n int) {
	if !m.err {
		return
	}
	if n == 1 && !m.sent {
		m.counts = count.RxFail(m.counts, 8)
	}
	if n%8 == 0 && m.sent {
		m.counts = count.TxFail(m.counts)
	} else if n%8 == 0 {
		m.counts = count.RxFail(m.counts, 8)
	}
	m.leave()
}

// world is all that is around a node on a wire: others' frames, bits that hold the wire at 0, and bits that are flipped.
type world struct {
	chance *rand.Rand
	list   []api.Frame
	play   []byte // what another one sends, from the next bit on
	jam    int    // bits of 0 to come
	noise  int    // one of so many bits is flipped
}

// bit is what is there, while a node puts a bit there, in a phase, and hears the slot next, or not.
func (w *world) bit(out byte, p api.Phase, slot bool) byte {
	bit := out
	if p == api.Ready && len(w.play) == 0 && w.chance.Intn(6) == 0 {
		w.play = wire.Encode(w.list[w.chance.Intn(len(w.list))])
	}
	if len(w.play) > 0 {
		bit &= w.play[0]
		w.play = w.play[1:]
	}
	if slot && w.chance.Intn(10) > 0 {
		bit = 0
	}
	if p == api.Clearing && w.chance.Intn(20) == 0 {
		w.jam = w.chance.Intn(30)
	}
	if w.jam > 0 {
		w.jam--
		bit = 0
	}
	if w.chance.Intn(w.noise) == 0 || (p == api.Pausing || p == api.Ending || p == api.Holding) && w.chance.Intn(40) == 0 {
		bit = 1 - bit
	}
	if p == api.Away && w.chance.Intn(100) > 0 {
		bit = 1
	}
	return bit
}

func TestAsTheWordsHaveIt(t *testing.T) { // P11.1, P11.2, P11.6: whatever is heard, given and taken away
	chance := rand.New(rand.NewSource(22))
	been := map[api.Phase]int{}
	happened := map[api.Happen]int{}
	for round := range 600 {
		w := &world{chance: chance, list: frames(), noise: []int{8, 30, 100, 400, 3000}[round%5]}
		m, x := New(), &model{}
		for range 3000 {
			f := w.list[chance.Intn(len(w.list))]
			if chance.Intn(40) == 0 {
				want := api.ErrState
				if !x.has {
					x.frame, x.has, want = f, true, api.OK
				}
				if errno := m.Ask(f); errno != want {
					t.Fatalf("Ask in phase %d: %d; want %d", x.phase, errno, want)
				}
			}
			if chance.Intn(300) == 0 {
				want := x.has && x.phase != api.Sending
				x.has = x.has && !want
				if m.Drop() != want {
					t.Fatalf("Drop in phase %d; want %v", x.phase, want)
				}
			}
			if m.Out() != x.out() {
				t.Fatalf("in phase %d it puts %d on the wire; want %d", x.phase, m.Out(), x.out())
			}
			slot := x.phase == api.Sending && x.l.Place() == api.InSlot
			bit := w.bit(x.out(), x.phase, slot)
			before, seen := x.phase, x.seen
			been[before]++
			want := x.step(bit)
			if h := m.Step(bit); h != want || m.Phase() != x.phase || m.Counts() != x.counts || !count.Right(m.Counts()) {
				t.Fatalf("phase %d, behind %s, hears %d: %v, phase %d, %v; want %v, %d, %v", before, seen, bit, h, m.Phase(), m.Counts(), want, x.phase, x.counts)
			}
			g, ok := m.Asked()
			if ok != x.has || ok && g != x.frame || !ok && g != (api.Frame{}) {
				t.Fatalf("phase %d: Asked() = %v, %v", x.phase, g, ok)
			}
			want.Frame = api.Frame{}
			happened[want]++
		}
	}
	if len(been) != 10 || len(happened) < 11 {
		t.Errorf("not all phases came up, or not all that happens: %v, %v", been, happened)
	}
}
