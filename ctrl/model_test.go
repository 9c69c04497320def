package ctrl

import (
	"math/rand"
	"slices"
	"testing"

	"bellbuoy/api"
	"bellbuoy/ident"
)

// held is a post that was taken in, ever.
type held struct {
	post api.Post
	box  int
	fate api.Fate // Pending while it waits
}

// model is a controller without filters, as the chapter says it: it keeps all that was.
type model struct {
	mailboxes, room int
	all             []*held
	sending         *held
	away            bool
	mark, now       int64
	on              bool // the phase that was told last is Hearing or Sending
	ends            []api.Outcome
	got             []api.Stamped
	overrun         bool
}

// at is what a mailbox has.
func (m *model) at(box int) *held {
	for _, x := range m.all {
		if x.fate == api.Pending && x.box == box {
			return x
		}
	}
	return nil
}

// waits is what waits, by its mailboxes.
func (m *model) waits() (list []*held) {
	for box := range m.mailboxes {
		if x := m.at(box); x != nil {
			list = append(list, x)
		}
	}
	return list
}

func (m *model) find(tag int) *held {
	for _, x := range m.waits() {
		if x.post.Tag == tag {
			return x
		}
	}
	return nil
}

func (m *model) best() *held {
	var best *held
	for _, x := range m.waits() {
		f := x.post.Frame
		if best == nil || ident.Key(f.Id, f.Remote) < ident.Key(best.post.Frame.Id, best.post.Frame.Remote) {
			best = x
		}
	}
	return best
}

func (m *model) end(x *held, fate api.Fate) {
	x.fate = fate
	m.ends = append(m.ends, api.Outcome{Tag: x.post.Tag, Fate: fate, At: m.now})
}

func (m *model) submit(p api.Post) (int, api.Errno) {
	if m.find(p.Tag) != nil {
		return -1, api.ErrTwice
	}
	for box := range m.mailboxes {
		if m.at(box) == nil {
			m.all = append(m.all, &held{post: p, box: box})
			return box, api.OK
		}
	}
	return -1, api.ErrFull
}

func (m *model) abort(tag int) api.Errno {
	x := m.find(tag)
	if x == nil {
		return api.ErrNone
	}
	if x == m.sending {
		m.away = true
	} else {
		m.end(x, api.Cancelled)
	}
	return api.OK
}

func (m *model) took(h api.Happen, p api.Phase, now int64) {
	on := p == api.Hearing || p == api.Sending
	if on && !m.on {
		m.mark = now
	}
	m.on, m.now = on, now
	if h.Began && m.sending == nil {
		m.sending, m.away = m.best(), false
	}
	if h.Sent && m.sending != nil {
		m.end(m.sending, api.Delivered)
		m.sending = nil
	}
	bad := h.Bad != api.NoBad && h.Bad != api.Overloads
	if (h.Lost || bad) && m.sending != nil {
		if m.away {
			m.end(m.sending, api.Cancelled)
		} else if m.sending.post.Once {
			m.end(m.sending, api.Failed)
		}
		m.sending = nil
	}
	if h.Got {
		if len(m.got) == m.room {
			m.overrun = true
		} else {
			m.got = append(m.got, api.Stamped{Frame: h.Frame, From: m.mark, To: now})
		}
	}
}

// is fails unless a controller tells what the model does.
func (m *model) is(t *testing.T, c *Ctrl) {
	t.Helper()
	var tags []int
	for _, x := range m.waits() {
		tags = append(tags, x.post.Tag)
	}
	if got := c.Tags(); !slices.Equal(got, tags) {
		t.Fatalf("Tags() = %v; want %v", got, tags)
	}
	wants, busy := m.best(), api.Post{}
	if m.sending != nil {
		wants, busy = m.sending, m.sending.post
	}
	if tag, ok := c.Busy(); tag != busy.Tag || ok != (m.sending != nil) {
		t.Fatalf("Busy() = %d, %v; want %v", tag, ok, m.sending)
	}
	f, ok := c.Want()
	if ok != (wants != nil) || ok && f != wants.post.Frame || !ok && f != (api.Frame{}) {
		t.Fatalf("Want() = %v, %v; want %v", f, ok, wants)
	}
	if c.Overrun() != m.overrun {
		t.Fatalf("Overrun() = %v", c.Overrun())
	}
}

// anyHappen is what a bit may bring, and more than that.
func anyHappen(chance *rand.Rand) api.Happen {
	h := api.Happen{}
	some := func() bool { return chance.Intn(6) == 0 }
	h.Began, h.Lost, h.Sent, h.Got = some() || some(), some(), some(), some()
	if some() {
		h.Bad = api.Bad(chance.Intn(9) - 1)
	}
	if h.Got {
		h.Frame = api.Frame{Id: short(chance.Uint32()), Len: chance.Intn(12)}
	}
	return h
}

// anyCall does something to both, and fails unless it answers the same.
func anyCall(t *testing.T, chance *rand.Rand, m *model, c *Ctrl) {
	t.Helper()
	tag := chance.Intn(9) - 1
	switch chance.Intn(8) {
	case 0, 1:
		p := api.Post{Frame: api.Frame{Id: short(chance.Uint32() % 5), Remote: chance.Intn(2) == 0, Len: chance.Intn(9)}, Once: chance.Intn(2) == 0, Tag: tag}
		box, errno := m.submit(p)
		if i, e := c.Submit(p); i != box || e != errno {
			t.Fatalf("Submit(%v) = %d, %d; want %d, %d", p, i, e, box, errno)
		}
	case 2:
		if busy, ok := c.Busy(); ok && chance.Intn(2) == 0 {
			tag = busy
		}
		aborts(t, c, tag, m.abort(tag))
	case 3:
		if len(m.got) == 0 {
			dry(t, c)
		} else {
			reads(t, c, m.got[0])
			m.got = m.got[1:]
		}
	case 4:
		ends(t, c, m.ends...)
		m.ends = nil
	default:
		h, p, now := anyHappen(chance), phases[chance.Intn(len(phases))], chance.Int63n(1000)-100
		m.took(h, p, now)
		c.Took(h, p, now)
	}
}

func TestAnyCalls(t *testing.T) { // P15.1 to P15.4
	chance := rand.New(rand.NewSource(44))
	for range 400 {
		m := &model{mailboxes: 1 + chance.Intn(api.MaxBoxes), room: 1 + chance.Intn(4)}
		c := made(t, m.mailboxes, m.room)
		for range 300 {
			anyCall(t, chance, m, c)
			m.is(t, c)
		}
		ends(t, c, m.ends...)
	}
}
