package mac

import (
	"bellbuoy/api"
	"bellbuoy/count"
	"bellbuoy/listen"
	"bellbuoy/speak"
)

// How many bits phases have: idle are the bits of 1 behind which nobody sends, and back how many times these bring a node back onto the bus.
const (
	idle  = 11
	flag  = 6
	end   = 8
	pause = 3
	hold  = 8
	back  = 128
)

// At the first 0 behind a flag, and at each eighth, it costs who heard so much more.
const (
	eighth = 8
	dear   = 8
)

// taker is what takes a bit in the phase that it is in.
func (m *Mac) taker() func(bit byte) {
	switch m.phase {
	case api.Ready:
		return m.ready
	case api.Hearing:
		return m.hearing
	case api.Sending:
		return m.sending
	case api.Flagging:
		return m.flagging
	case api.Clearing:
		return m.clearing
	case api.Ending:
		return m.ending
	case api.Pausing:
		return m.pausing
	case api.Holding:
		return m.holding
	case api.Away:
		return m.away
	}
	return m.waiting
}

// enter begins a phase; who speaks and listens goes, where nothing is sent, or heard.
func (m *Mac) enter(p api.Phase) {
	m.phase, m.bits = p, 0
	if p != api.Sending {
		m.speaker = nil
	}
	if p != api.Sending && p != api.Hearing {
		m.listener = nil
	}
}

func (m *Mac) waiting(bit byte) {
	switch {
	case bit == 0:
		m.bits = 0
	case m.bits == idle:
		m.enter(api.Ready)
	}
}

func (m *Mac) ready(bit byte) {
	switch {
	case m.has:
		m.send(bit)
	case bit == 0:
		m.hear(bit)
	}
}

// send begins to send with a bit.
func (m *Mac) send(bit byte) {
	m.began()
	m.speaker, _ = speak.New(m.frame) // that it can be was asked as it was given
	m.listener = listen.New()
	m.sender = true
	m.enter(api.Sending)
	m.sending(bit)
}

// hear begins to hear with a bit.
func (m *Mac) hear(bit byte) {
	m.listener = listen.New()
	m.sender = false
	m.enter(api.Hearing)
	m.hearing(bit)
}

func (m *Mac) sending(bit byte) {
	event := m.listener.Hear(bit)
	switch m.speaker.Heard(bit) {
	case api.Done:
		m.sent(m.frame)
		m.forget()
		m.counts = count.TxGood(m.counts)
		m.enter(api.Pausing)
	case api.Lost:
		m.lost()
		m.sender = false
		m.enter(api.Hearing)
		m.follow(event)
	case api.BadBit:
		m.counts = count.TxFail(m.counts)
		m.fail(api.BitError)
	case api.BadExtra:
		m.fail(api.StuffBad)
	case api.NoAck:
		if m.mode() == api.Active { // a passive one that is alone would go off the bus else
			m.counts = count.TxFail(m.counts)
		}
		m.fail(api.AckBad)
	}
}

func (m *Mac) hearing(bit byte) {
	m.follow(m.listener.Hear(bit))
}

// follow does what follows from what its listener told.
func (m *Mac) follow(event api.Event) {
	switch event {
	case api.Valid:
		f, _ := m.listener.Frame()
		m.got(f)
		m.counts = count.RxGood(m.counts)
	case api.Over:
		m.enter(api.Pausing)
	case api.Late:
		m.overload()
	case api.BadStuff:
		m.misheard(api.StuffBad)
	case api.BadForm:
		m.misheard(api.FormBad)
	case api.BadCrc:
		m.misheard(api.CrcBad)
	}
}

// misheard tells an error as who hears.
func (m *Mac) misheard(bad api.Bad) {
	m.counts = count.RxFail(m.counts, 1)
	m.fail(bad)
}

// fail tells an error that was counted.
func (m *Mac) fail(bad api.Bad) {
	m.wrong(bad)
	if m.mode() == api.OffBus {
		m.enter(api.Away)
		return
	}
	m.fault, m.loud = true, m.mode() == api.Active
	m.enter(api.Flagging)
}

func (m *Mac) overload() {
	m.wrong(api.Overloads)
	m.fault, m.loud = false, true
	m.enter(api.Flagging)
}

func (m *Mac) flagging(bit byte) {
	if !m.loud && bit != m.last { // the first bit is counted, whichever it is
		m.bits = 1
	}
	m.last = bit
	if m.bits == flag {
		m.enter(api.Clearing)
	}
}

func (m *Mac) clearing(bit byte) {
	if bit != 0 {
		m.enter(api.Ending)
		m.bits = 1 // it is one of those that end it
		return
	}
	if m.fault {
		m.prolonged()
	}
}

// prolonged counts a 0 behind the flag of an error.
func (m *Mac) prolonged() {
	if m.bits == 1 && !m.sender {
		m.counts = count.RxFail(m.counts, dear)
	}
	if m.bits%eighth != 0 {
		return
	}
	if m.sender {
		m.counts = count.TxFail(m.counts)
	} else {
		m.counts = count.RxFail(m.counts, dear)
	}
	if m.mode() == api.OffBus {
		m.enter(api.Away)
	}
}

func (m *Mac) ending(bit byte) {
	switch {
	case bit == 0 && m.bits == end:
		m.overload()
	case bit == 0 && m.sender:
		m.counts = count.TxFail(m.counts)
		m.fail(api.FormBad)
	case bit == 0:
		m.misheard(api.FormBad)
	case m.bits == end:
		m.enter(api.Pausing)
	}
}

func (m *Mac) pausing(bit byte) {
	switch {
	case bit == 0 && m.bits == pause:
		m.hear(bit)
	case bit == 0:
		m.overload()
	case m.bits < pause:
	case m.sender && m.mode() == api.Passive:
		m.enter(api.Holding)
	default:
		m.enter(api.Ready)
	}
}

func (m *Mac) holding(bit byte) {
	switch {
	case bit == 0:
		m.hear(bit)
	case m.bits == hold:
		m.enter(api.Ready)
	}
}

func (m *Mac) away(bit byte) {
	switch {
	case bit == 0:
		m.bits-- // of the bits ahead those count that stand in whole stretches
		m.bits -= m.bits % idle
	case m.bits == back*idle:
		m.counts = api.Counts{}
		m.enter(api.Ready)
	}
}
