package ctrl

import (
	"math"
	"slices"
	"testing"

	"bellbuoy/api"
)

func short(n uint32) api.Ident { return api.Ident{N: n} }
func long(n uint32) api.Ident  { return api.Ident{Ext: true, N: n} }

// plain is a post of a short frame, once one for which just one try is made.
func plain(tag int, n uint32) api.Post {
	return api.Post{Frame: api.Frame{Id: short(n), Len: 1, Data: [8]byte{byte(tag)}}, Tag: tag}
}

func once(tag int, n uint32) api.Post {
	p := plain(tag, n)
	p.Once = true
	return p
}

func made(t *testing.T, mailboxes, room int, l ...api.Filter) *Ctrl {
	t.Helper()
	c, errno := New(mailboxes, room, l...)
	if c == nil || errno != api.OK {
		t.Fatalf("New(%d, %d, %v) = %v, %d", mailboxes, room, l, c, errno)
	}
	return c
}

// with is a controller of three mailboxes, room for two frames, and these posts.
func with(t *testing.T, list ...api.Post) *Ctrl {
	t.Helper()
	c := made(t, 3, 2)
	for i, p := range list {
		submits(t, c, p, i)
	}
	return c
}

// submits fails unless that mailbox has a post then.
func submits(t *testing.T, c *Ctrl, p api.Post, want int) {
	t.Helper()
	if i, errno := c.Submit(p); i != want || errno != api.OK {
		t.Fatalf("Submit(%v) = %d, %d; want %d", p, i, errno, want)
	}
}

// refuses fails unless a post is refused with that error.
func refuses(t *testing.T, c *Ctrl, p api.Post, want api.Errno) {
	t.Helper()
	if i, errno := c.Submit(p); i != -1 || errno != want {
		t.Errorf("Submit(%v) = %d, %d; want -1, %d", p, i, errno, want)
	}
}

func aborts(t *testing.T, c *Ctrl, tag int, want api.Errno) {
	t.Helper()
	if errno := c.Abort(tag); errno != want {
		t.Fatalf("Abort(%d) = %d; want %d", tag, errno, want)
	}
}

// ends fails unless just that became of posts, and is told once.
func ends(t *testing.T, c *Ctrl, want ...api.Outcome) {
	t.Helper()
	if got := c.Fates(); !slices.Equal(got, want) {
		t.Fatalf("Fates() = %v; want %v", got, want)
	}
	if got := c.Fates(); len(got) != 0 {
		t.Fatalf("Fates() = %v, asked again", got)
	}
}

// none is no frame that is wanted, and no tag of one that is being sent.
const none = math.MinInt

// stands fails unless the post of one tag is being sent, that of another one is wanted, and these wait.
func stands(t *testing.T, c *Ctrl, busy, wants int, tags ...int) {
	t.Helper()
	tag, sends := c.Busy()
	if sends != (busy != none) || sends && tag != busy || !sends && tag != 0 {
		t.Fatalf("Busy() = %d, %v; want %d", tag, sends, busy)
	}
	f, ok := c.Want()
	if ok != (wants != none) || ok && f.Data[0] != byte(wants) || !ok && f != (api.Frame{}) {
		t.Fatalf("Want() = %v, %v; want that of %d", f, ok, wants)
	}
	if got := c.Tags(); !slices.Equal(got, tags) {
		t.Fatalf("Tags() = %v; want %v", got, tags)
	}
}

// reads fails unless that is the oldest frame that was got.
func reads(t *testing.T, c *Ctrl, want api.Stamped) {
	t.Helper()
	if s, ok := c.Read(); s != want || !ok {
		t.Fatalf("Read() = %v, %v; want %v", s, ok, want)
	}
}

// dry fails unless nothing is there to be read.
func dry(t *testing.T, c *Ctrl) {
	t.Helper()
	if s, ok := c.Read(); s != (api.Stamped{}) || ok {
		t.Fatalf("Read() = %v, %v of none", s, ok)
	}
}

// What a bit may bring.
var (
	nothing  = api.Happen{}
	began    = api.Happen{Began: true}
	sent     = api.Happen{Sent: true}
	lost     = api.Happen{Lost: true}
	overload = api.Happen{Bad: api.Overloads}
)

func wrong(bad api.Bad) api.Happen  { return api.Happen{Bad: bad} }
func got(f api.Frame) api.Happen    { return api.Happen{Got: true, Frame: f} }
func plainFrame(n uint32) api.Frame { return api.Frame{Id: short(n)} }
func failures() (list []api.Happen) { // a try that is over without a frame that was sent
	list = append(list, lost, api.Happen{Lost: true, Bad: api.StuffBad}, api.Happen{Lost: true, Bad: api.Overloads})
	for _, bad := range []api.Bad{api.BitError, api.StuffBad, api.FormBad, api.CrcBad, api.AckBad, -1, 7, math.MinInt, math.MaxInt} {
		list = append(list, wrong(bad))
	}
	return list
}

func TestNew(t *testing.T) { // P15.1
	no := []int{0, -1, -2, api.MaxFifo + 1, 1 << 32, math.MinInt, math.MaxInt}
	many := make([]api.Filter, api.MaxFilters+1)
	for _, c := range []struct {
		mailboxes, room []int
		filters         []api.Filter
		want            api.Errno
	}{
		{[]int{0, -1, 9, 16, 17, 1<<32 + 1, math.MinInt, math.MaxInt}, []int{1, 16}, nil, api.ErrRange},
		{[]int{0, -1, 9, 16, math.MinInt, math.MaxInt}, []int{1, 16}, many, api.ErrRange}, // that of mailboxes ahead of that of filters
		{no, no, many, api.ErrRange},
		{[]int{1, 8}, no, nil, api.ErrRange},
		{[]int{1, 8}, no, many, api.ErrRange},
		{[]int{1, 8}, []int{1, 16}, many, api.ErrLong},
		{[]int{1, 8}, []int{1, 16}, make([]api.Filter, 1000), api.ErrLong},
	} {
		for _, mailboxes := range c.mailboxes {
			for _, room := range c.room {
				if got, errno := New(mailboxes, room, c.filters...); got != nil || errno != c.want {
					t.Errorf("New(%d, %d, %d filters) = %v, %d; want %d", mailboxes, room, len(c.filters), got, errno, c.want)
				}
			}
		}
	}
	for mailboxes := 1; mailboxes <= api.MaxBoxes; mailboxes++ {
		for room := 1; room <= api.MaxFifo; room++ {
			c := made(t, mailboxes, room, make([]api.Filter, room%(api.MaxFilters+1))...)
			stands(t, c, none, none)
			ends(t, c)
			dry(t, c)
			if c.Overrun() {
				t.Error("a new one has lost something")
			}
		}
	}
}

func TestRoom(t *testing.T) { // P15.1: as many mailboxes, and as much room, as it was made with
	for mailboxes := 1; mailboxes <= api.MaxBoxes; mailboxes++ {
		for room := 1; room <= api.MaxFifo; room++ {
			c := made(t, mailboxes, room)
			for i := range mailboxes {
				submits(t, c, plain(10+i, 5), i)
			}
			refuses(t, c, plain(99, 5), api.ErrFull)
			for n := range room {
				c.Took(got(plainFrame(uint32(n))), api.Hearing, int64(n))
				if c.Overrun() {
					t.Fatalf("frame %d of %d is lost", n, room)
				}
			}
			c.Took(got(plainFrame(99)), api.Hearing, 99)
			if !c.Overrun() {
				t.Fatalf("room for more than %d frames", room)
			}
			for n := range room {
				reads(t, c, api.Stamped{Frame: plainFrame(uint32(n)), To: int64(n)})
			}
			dry(t, c)
			if !c.Overrun() {
				t.Fatal("that one was lost is forgotten")
			}
		}
	}
}

func TestNil(t *testing.T) { // P15.2
	var c *Ctrl
	for _, p := range []api.Post{{}, plain(1, 5), plain(1, 2048), {Frame: api.Frame{Len: -1}}} { // ahead of any other error
		refuses(t, c, p, api.ErrNone)
	}
	for range 2 {
		stands(t, c, none, none)
		ends(t, c)
		dry(t, c)
		if c.Overrun() {
			t.Error("a nil one has lost something")
		}
		for _, tag := range []int{0, 1, -1, math.MinInt, math.MaxInt} {
			aborts(t, c, tag, api.ErrNone)
		}
		for _, h := range append(failures(), nothing, began, sent, overload, got(plainFrame(1))) {
			c.Took(h, api.Sending, 5)
		}
	}
}

func TestSubmit(t *testing.T) { // P15.1: it is that of the mailboxes, whatever is being sent
	c := made(t, 3, 1)
	for _, x := range []struct {
		f    api.Frame
		want api.Errno
	}{
		{api.Frame{Id: short(2048)}, api.ErrRange},
		{api.Frame{Id: long(1 << 29), Len: 9}, api.ErrRange},
		{api.Frame{Len: 9}, api.ErrLen},
		{api.Frame{Len: -1, Data: [8]byte{1}}, api.ErrLen},
		{api.Frame{Data: [8]byte{1}}, api.ErrForm},
	} {
		refuses(t, c, api.Post{Frame: x.f}, x.want)
		refuses(t, c, api.Post{Frame: x.f, Once: true, Tag: 7}, x.want)
	}
	stands(t, c, none, none)
	submits(t, c, plain(7, 5), 0)
	submits(t, c, once(0, 6), 1)
	for range 2 {
		refuses(t, c, plain(7, 3), api.ErrTwice)
		refuses(t, c, once(0, 3), api.ErrTwice)
		refuses(t, c, api.Post{Frame: api.Frame{Len: 9}, Tag: 7}, api.ErrLen)
		c.Took(began, api.Sending, 1)
		stands(t, c, 7, 7, 7, 0)
	}
	submits(t, c, plain(-1, 1), 2)
	refuses(t, c, plain(7, 3), api.ErrTwice) // ahead of ErrFull
	refuses(t, c, plain(8, 3), api.ErrFull)
	stands(t, c, 7, 7, 7, 0, -1)
	c.Took(sent, api.Pausing, 2)
	ends(t, c, api.Outcome{Tag: 7, Fate: api.Delivered, At: 2})
	submits(t, c, plain(7, 3), 0) // what is out can come again
	stands(t, c, none, -1, 7, 0, -1)
}

func TestWant(t *testing.T) { // P15.2: the best one, but the one that is being sent ahead of it
	c := with(t, plain(1, 50), plain(2, 40))
	stands(t, c, none, 2, 1, 2)
	c.Took(began, api.Sending, 1)
	stands(t, c, 2, 2, 1, 2)
	submits(t, c, plain(3, 30), 2)
	stands(t, c, 2, 2, 1, 2, 3)
	c.Took(nothing, api.Sending, 2)
	c.Took(began, api.Sending, 3) // it sends already
	stands(t, c, 2, 2, 1, 2, 3)
	c.Took(lost, api.Hearing, 4)
	stands(t, c, none, 3, 1, 2, 3)
	c.Took(began, api.Sending, 5)
	stands(t, c, 3, 3, 1, 2, 3)
	c.Took(sent, api.Pausing, 6)
	stands(t, c, none, 2, 1, 2)
	ends(t, c, api.Outcome{Tag: 3, Fate: api.Delivered, At: 6})
}

func TestWantIsTheWholeFrame(t *testing.T) { // P15.2
	for _, f := range []api.Frame{
		{Id: long(0x1234567), Len: 8, Data: [8]byte{1, 2, 3, 4, 5, 6, 7, 8}},
		{Id: short(0x7ff), Remote: true, Len: 5},
		{},
	} {
		c := with(t, api.Post{Frame: f, Tag: 5, Once: true})
		for range 2 {
			if got, ok := c.Want(); got != f || !ok {
				t.Errorf("Want() = %v, %v; want %v", got, ok, f)
			}
			c.Took(began, api.Sending, 1)
		}
	}
}

func TestSentAgain(t *testing.T) { // P15.2, P15.4: one that is lost stays, and is sent again
	for _, h := range failures() {
		c := with(t, plain(7, 5))
		for try := range int64(3) {
			c.Took(began, api.Sending, 10*try)
			stands(t, c, 7, 7, 7)
			c.Took(nothing, api.Sending, 10*try+1)
			stands(t, c, 7, 7, 7)
			c.Took(h, api.Hearing, 10*try+2)
			stands(t, c, none, 7, 7)
			ends(t, c)
		}
		c.Took(sent, api.Pausing, 40) // none is being sent
		stands(t, c, none, 7, 7)
		ends(t, c)
		c.Took(began, api.Sending, 50)
		c.Took(sent, api.Pausing, 51)
		stands(t, c, none, none)
		ends(t, c, api.Outcome{Tag: 7, Fate: api.Delivered, At: 51})
	}
}

func TestOnce(t *testing.T) { // P15.2, P15.4: one try, whatever ends it
	for _, h := range failures() {
		c := with(t, once(7, 5), plain(8, 6))
		c.Took(h, api.Hearing, 1) // it is not being sent
		stands(t, c, none, 7, 7, 8)
		ends(t, c)
		c.Took(began, api.Sending, 2)
		c.Took(overload, api.Flagging, 3)
		stands(t, c, 7, 7, 7, 8)
		c.Took(h, api.Hearing, 4)
		stands(t, c, none, 8, 8)
		ends(t, c, api.Outcome{Tag: 7, Fate: api.Failed, At: 4})
		submits(t, c, once(7, 5), 0)
		c.Took(began, api.Sending, 5)
		c.Took(sent, api.Pausing, 6)
		stands(t, c, none, 8, 8)
		ends(t, c, api.Outcome{Tag: 7, Fate: api.Delivered, At: 6})
	}
}

func TestOverload(t *testing.T) { // P15.2: an overload is nothing to a post
	for _, p := range []api.Post{plain(7, 5), once(7, 5)} {
		for _, abort := range []bool{false, true} {
			c := with(t, p)
			c.Took(overload, api.Flagging, 1)
			stands(t, c, none, 7, 7)
			c.Took(began, api.Sending, 2)
			if abort {
				aborts(t, c, 7, api.OK)
			}
			for n := range int64(3) {
				c.Took(overload, api.Flagging, 3+n)
				stands(t, c, 7, 7, 7)
			}
			ends(t, c)
			c.Took(sent, api.Pausing, 9)
			stands(t, c, none, none)
			ends(t, c, api.Outcome{Tag: 7, Fate: api.Delivered, At: 9})
		}
	}
}

func TestAbort(t *testing.T) { // P15.1: of one that waits, and of one that is not there
	c := with(t, plain(1, 50), once(2, 40), plain(3, 30))
	for _, tag := range []int{0, -1, 4, 1<<32 + 1, math.MinInt, math.MaxInt} {
		aborts(t, c, tag, api.ErrNone)
	}
	stands(t, c, none, 3, 1, 2, 3)
	ends(t, c)
	aborts(t, c, 2, api.OK) // at the time that was told last: none was
	stands(t, c, none, 3, 1, 3)
	aborts(t, c, 2, api.ErrNone)
	c.Took(began, api.Sending, 17)
	aborts(t, c, 1, api.OK)
	stands(t, c, 3, 3, 3)
	c.Took(lost, api.Hearing, -5)
	submits(t, c, plain(1, 60), 0)
	aborts(t, c, 1, api.OK)
	aborts(t, c, 3, api.OK)
	stands(t, c, none, none)
	ends(t, c, api.Outcome{Tag: 2, Fate: api.Cancelled}, api.Outcome{Tag: 1, Fate: api.Cancelled, At: 17}, api.Outcome{Tag: 1, Fate: api.Cancelled, At: -5}, api.Outcome{Tag: 3, Fate: api.Cancelled, At: -5})
	for tag := range 5 {
		aborts(t, c, tag, api.ErrNone)
	}
	ends(t, c)
}

func TestAbortAsItIsSent(t *testing.T) { // P15.1, P15.2: it goes with its try
	for _, p := range []api.Post{plain(7, 5), once(7, 5)} {
		for _, h := range failures() {
			for times := 1; times <= 2; times++ {
				c := with(t, p, plain(8, 6))
				c.Took(began, api.Sending, 2)
				for range times {
					aborts(t, c, 7, api.OK)
					stands(t, c, 7, 7, 7, 8)
				}
				refuses(t, c, p, api.ErrTwice)
				ends(t, c)
				c.Took(nothing, api.Sending, 3)
				c.Took(began, api.Sending, 3)
				stands(t, c, 7, 7, 7, 8)
				ends(t, c)
				c.Took(h, api.Hearing, 4)
				stands(t, c, none, 8, 8)
				ends(t, c, api.Outcome{Tag: 7, Fate: api.Cancelled, At: 4})
				aborts(t, c, 7, api.ErrNone)
			}
		}
	}
}

func TestAbortedAndSent(t *testing.T) { // P15.2, example 1
	for _, p := range []api.Post{plain(7, 5), once(7, 5)} {
		c := with(t, p)
		c.Took(began, api.Sending, 2)
		aborts(t, c, 7, api.OK)
		c.Took(sent, api.Pausing, 60)
		stands(t, c, none, none)
		ends(t, c, api.Outcome{Tag: 7, Fate: api.Delivered, At: 60})
		aborts(t, c, 7, api.ErrNone)
	}
}

func TestAbortIsOfOneTry(t *testing.T) { // P15.2: what is sent behind one that was taken away is not taken away
	for _, end := range append(failures(), sent) {
		c := with(t, plain(7, 5), plain(8, 6))
		c.Took(began, api.Sending, 1)
		aborts(t, c, 7, api.OK)
		c.Took(end, api.Pausing, 2)
		c.Fates()
		c.Took(began, api.Sending, 3)
		stands(t, c, 8, 8, 8)
		c.Took(wrong(api.BitError), api.Flagging, 4)
		stands(t, c, none, 8, 8)
		ends(t, c)
	}
}

func TestBeganWithNothing(t *testing.T) { // P15.2: no mailbox is full
	c := with(t)
	for _, h := range append(failures(), sent) {
		c.Took(began, api.Sending, 1)
		stands(t, c, none, none)
		c.Took(h, api.Pausing, 2)
		stands(t, c, none, none)
		ends(t, c)
	}
	c.Took(began, api.Sending, 3)
	submits(t, c, plain(7, 5), 0)
	stands(t, c, none, 7, 7)
	c.Took(sent, api.Pausing, 4) // what came behind that is not what was sent
	stands(t, c, none, 7, 7)
	ends(t, c)
	c.Took(began, api.Sending, 5)
	stands(t, c, 7, 7, 7)
}

func TestBestAsItBegins(t *testing.T) { // P15.2: alike ones by their mailboxes
	c := with(t, plain(1, 50), plain(2, 50), plain(3, 50))
	for n, tag := range []int{1, 2, 3} {
		c.Took(began, api.Sending, int64(n))
		stands(t, c, tag, tag, []int{1, 2, 3}[n:]...)
		c.Took(sent, api.Pausing, int64(n))
	}
	ends(t, c, api.Outcome{Tag: 1, Fate: api.Delivered}, api.Outcome{Tag: 2, Fate: api.Delivered, At: 1}, api.Outcome{Tag: 3, Fate: api.Delivered, At: 2})
}

func TestMuchAtOneBit(t *testing.T) { // P15.2: in the chapter's order
	for _, x := range []struct {
		h    api.Happen
		once bool
		want api.Fate
	}{
		{api.Happen{Began: true, Bad: api.BitError}, true, api.Failed},
		{api.Happen{Began: true, Bad: api.BitError}, false, api.Pending},
		{api.Happen{Began: true, Lost: true}, true, api.Failed},
		{api.Happen{Began: true, Lost: true, Bad: api.StuffBad}, true, api.Failed},
		{api.Happen{Began: true, Lost: true, Bad: api.StuffBad}, false, api.Pending},
		{api.Happen{Began: true, Sent: true}, false, api.Delivered},
		{api.Happen{Began: true, Sent: true, Lost: true, Bad: api.AckBad, Got: true}, true, api.Delivered},
	} {
		p := plain(7, 5)
		p.Once = x.once
		c := with(t, p)
		c.Took(x.h, api.Flagging, 3)
		if x.want == api.Pending {
			stands(t, c, none, 7, 7)
			ends(t, c)
			continue
		}
		stands(t, c, none, none)
		ends(t, c, api.Outcome{Tag: 7, Fate: x.want, At: 3})
	}
	c := with(t, plain(7, 5))
	c.Took(api.Happen{Began: true, Bad: api.Overloads}, api.Flagging, 3)
	stands(t, c, 7, 7, 7)
	c.Took(api.Happen{Sent: true, Got: true, Frame: plainFrame(9)}, api.Pausing, 4)
	ends(t, c, api.Outcome{Tag: 7, Fate: api.Delivered, At: 4})
	reads(t, c, api.Stamped{Frame: plainFrame(9), To: 4})
}

func TestFatesAreTheCallers(t *testing.T) { // P3: what was answered is not written to later
	c := with(t, plain(1, 1), plain(2, 2), plain(3, 3))
	aborts(t, c, 1, api.OK)
	aborts(t, c, 2, api.OK)
	first := c.Fates()
	kept := slices.Clone(first)
	c.Took(nothing, api.Ready, 9)
	aborts(t, c, 3, api.OK)
	submits(t, c, plain(4, 4), 0)
	aborts(t, c, 4, api.OK)
	if !slices.Equal(first, kept) {
		t.Errorf("what was answered is %v now", first)
	}
	clear(first[:cap(first)])
	ends(t, c, api.Outcome{Tag: 3, Fate: api.Cancelled, At: 9}, api.Outcome{Tag: 4, Fate: api.Cancelled, At: 9})
	submits(t, c, plain(5, 5), 0)
	clear(c.Tags())
	stands(t, c, none, 5, 5)
}

// phases are all phases, and what are none.
var phases = []api.Phase{api.Waiting, api.Ready, api.Hearing, api.Sending, api.Flagging, api.Clearing, api.Ending, api.Pausing, api.Holding, api.Away, -1, 10, math.MinInt, math.MaxInt}

func TestMark(t *testing.T) { // P15.2: it is set as Hearing or Sending begins, and not within
	within := func(p api.Phase) bool { return p == api.Hearing || p == api.Sending }
	for _, first := range phases {
		for _, next := range phases {
			for _, last := range phases {
				c := made(t, 1, 1)
				mark := int64(0)
				ahead := api.Waiting
				for n, p := range []api.Phase{first, next, next, last} {
					now := int64(10 + n)
					if within(p) && !within(ahead) {
						mark = now
					}
					ahead = p
					c.Took(got(plainFrame(5)), p, now)
					reads(t, c, api.Stamped{Frame: plainFrame(5), From: mark, To: now})
				}
			}
		}
	}
}

func TestMarkOfWhatIsHeard(t *testing.T) { // P15.2
	c := made(t, 1, 2)
	c.Took(nothing, api.Ready, 4)
	c.Took(nothing, api.Hearing, 5)
	c.Took(nothing, api.Hearing, 6)
	c.Took(got(plainFrame(5)), api.Hearing, 50)
	c.Took(nothing, api.Pausing, 51)
	c.Took(nothing, api.Hearing, 54)
	c.Took(got(plainFrame(6)), api.Hearing, 99)
	reads(t, c, api.Stamped{Frame: plainFrame(5), From: 5, To: 50})
	reads(t, c, api.Stamped{Frame: plainFrame(6), From: 54, To: 99})
	dry(t, c)
}

func TestMarkOfWhatIsSentAndHeardOn(t *testing.T) { // P15.2: the bus was lost behind the first bit
	c := with(t, plain(7, 5))
	c.Took(nothing, api.Ready, 4)
	c.Took(began, api.Sending, 5)
	c.Took(nothing, api.Sending, 6)
	c.Took(lost, api.Hearing, 7)
	c.Took(nothing, api.Hearing, 8)
	c.Took(got(plainFrame(3)), api.Hearing, 50)
	c.Took(nothing, api.Pausing, 51)
	c.Took(began, api.Sending, 54) // one that is sent has a mark, too
	c.Took(sent, api.Pausing, 99)
	c.Took(got(plainFrame(4)), api.Pausing, 100)
	reads(t, c, api.Stamped{Frame: plainFrame(3), From: 5, To: 50})
	reads(t, c, api.Stamped{Frame: plainFrame(4), From: 54, To: 100})
	ends(t, c, api.Outcome{Tag: 7, Fate: api.Delivered, At: 99})
}

func TestTimes(t *testing.T) { // P15.2: any times, also such as fall
	for _, now := range []int64{0, -1, math.MinInt64, math.MaxInt64, api.MaxTime + 1} {
		c := with(t, plain(7, 5), plain(8, 6))
		c.Took(began, api.Sending, now)
		c.Took(api.Happen{Sent: true, Got: true}, api.Sending, -now/2)
		ends(t, c, api.Outcome{Tag: 7, Fate: api.Delivered, At: -now / 2})
		reads(t, c, api.Stamped{From: now, To: -now / 2})
		c.Took(nothing, api.Ready, now)
		aborts(t, c, 8, api.OK)
		ends(t, c, api.Outcome{Tag: 8, Fate: api.Cancelled, At: now})
	}
}

func TestGotBehindFilters(t *testing.T) { // P15.1, P15.2
	list := []api.Filter{{Mask: 0x7f0, Match: 0x120}, {Ext: true, Mask: 1, Match: 1}}
	c := made(t, 1, 1, list...)
	clear(list) // P3: it is not kept
	for _, id := range []api.Ident{short(0x130), short(0x11f), long(0x120), short(1), long(2)} {
		c.Took(got(api.Frame{Id: id}), api.Hearing, 5)
		dry(t, c)
	}
	for n, id := range []api.Ident{short(0x120), short(0x12f), long(1), long(0x1fffffff)} {
		f := api.Frame{Id: id, Len: 2, Data: [8]byte{1, byte(n)}}
		c.Took(got(f), api.Hearing, int64(6+n))
		c.Took(got(api.Frame{Id: short(0x130)}), api.Hearing, 7) // no room is nothing to what does not come through
		if c.Overrun() {
			t.Fatal("a frame was lost")
		}
		reads(t, c, api.Stamped{Frame: f, From: 5, To: int64(6 + n)})
		dry(t, c)
	}
	c.Took(got(api.Frame{Id: long(3)}), api.Hearing, 20)
	c.Took(got(api.Frame{Id: long(5)}), api.Hearing, 30) // no room
	if !c.Overrun() {
		t.Error("that a frame was lost is not told")
	}
	reads(t, c, api.Stamped{Frame: api.Frame{Id: long(3)}, From: 5, To: 20})
	dry(t, c)
}

func TestNotGot(t *testing.T) { // P15.2: a frame that was sent, or of which nothing is told, was not got
	c := with(t, plain(7, 5))
	c.Took(began, api.Sending, 1)
	c.Took(api.Happen{Frame: plainFrame(5)}, api.Sending, 2)
	c.Took(api.Happen{Sent: true, Frame: plainFrame(5)}, api.Pausing, 3)
	dry(t, c)
}

func TestGotChangesNoPost(t *testing.T) { // P15.2: what is got is nothing to what is being sent
	c := with(t, once(7, 5))
	c.Took(began, api.Sending, 1)
	c.Took(got(plainFrame(5)), api.Hearing, 2)
	stands(t, c, 7, 7, 7)
	ends(t, c)
}

func TestApart(t *testing.T) { // P5: each has its own
	one, two := with(t, plain(7, 5)), with(t)
	one.Took(began, api.Sending, 9)
	stands(t, two, none, none)
	submits(t, two, once(8, 6), 0)
	two.Took(sent, api.Pausing, 3)
	aborts(t, two, 8, api.OK)
	stands(t, one, 7, 7, 7)
	ends(t, one)
	ends(t, two, api.Outcome{Tag: 8, Fate: api.Cancelled, At: 3})
}
