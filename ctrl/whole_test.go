package ctrl

import (
	"math/rand"
	"slices"
	"testing"

	"bellbuoy/api"
	"bellbuoy/bus"
)

// life is what is known of a post that a controller took in.
type life struct {
	post    api.Post
	aborted bool
	fate    api.Fate
	tried   bool // a try of it was made, and is over
}

// network is controllers beside nodes on a bus; no two posts have one tag, or ask alike.
type network struct {
	bus   *bus.Bus
	ctrls []*Ctrl
	lives []map[int]*life // of a node's posts, by their tags
	tags  int
	began int64 // the last bit at which somebody began to send
}

func newNetwork(t *testing.T, nodes int) *network {
	t.Helper()
	b, errno := bus.New(nodes)
	if errno != api.OK {
		t.Fatalf("bus.New(%d) = %d", nodes, errno)
	}
	n := &network{bus: b}
	for range nodes {
		n.ctrls = append(n.ctrls, made(t, 3, api.MaxFifo))
		n.lives = append(n.lives, map[int]*life{})
	}
	return n
}

// submit gives a node's controller a post of a frame that no other post has.
func (n *network) submit(t *testing.T, chance *rand.Rand, k int) {
	t.Helper()
	n.tags++
	f := api.Frame{Id: short(chance.Uint32()%8<<7 | uint32(n.tags%128)), Len: 3, Data: [8]byte{byte(k), byte(n.tags >> 8), byte(n.tags)}}
	p := api.Post{Frame: f, Once: chance.Intn(3) == 0, Tag: n.tags}
	full := len(n.ctrls[k].Tags()) == 3
	_, errno := n.ctrls[k].Submit(p)
	if (errno == api.ErrFull) != full || !full && errno != api.OK {
		t.Fatalf("Submit(%v) = %d; full %v", p, errno, full)
	}
	if errno == api.OK {
		n.lives[k][p.Tag] = &life{post: p}
	}
}

// abort takes one of a node's posts away, most often the one that is being sent.
func (n *network) abort(t *testing.T, chance *rand.Rand, k int) {
	t.Helper()
	tags := n.ctrls[k].Tags()
	if len(tags) == 0 {
		return
	}
	tag := tags[chance.Intn(len(tags))]
	if busy, ok := n.ctrls[k].Busy(); ok && chance.Intn(4) > 0 {
		tag = busy
	}
	aborts(t, n.ctrls[k], tag, api.OK)
	n.lives[k][tag].aborted = true
}

// hand makes the frame that a node has to send the one that its controller wants.
func (n *network) hand(t *testing.T, k int) {
	t.Helper()
	if n.bus.Phase(k) == api.Sending {
		return
	}
	wants, ok := n.ctrls[k].Want()
	if has, there := n.bus.Asked(k); there && (!ok || has != wants) {
		n.bus.Drop(k)
	}
	if _, there := n.bus.Asked(k); ok && !there {
		if errno := n.bus.Ask(k, wants); errno != api.OK {
			t.Fatalf("node %d is not given %v: %d", k, wants, errno)
		}
	}
}

// bit is one bit, of which all controllers are told.
func (n *network) bit(t *testing.T, flips ...int) {
	t.Helper()
	for k := range n.ctrls {
		n.hand(t, k)
	}
	now := int64(n.bus.Time())
	_, notes := n.bus.Step(flips...)
	happened := make([]api.Happen, len(n.ctrls))
	for _, note := range notes {
		happened[note.Node] = note.Happen
		if note.Happen.Began {
			n.began = now
		}
	}
	for k, c := range n.ctrls {
		ahead, _ := c.Busy()
		c.Took(happened[k], n.bus.Phase(k), now)
		n.judge(t, k, ahead, happened[k], now)
	}
}

// judge fails unless what became of a node's posts is what must, behind a bit; ahead is the tag of what was being sent, if anything was.
func (n *network) judge(t *testing.T, k, ahead int, h api.Happen, now int64) {
	t.Helper()
	c, lives := n.ctrls[k], n.lives[k]
	for _, o := range c.Fates() {
		x := lives[o.Tag]
		if x == nil || x.fate != api.Pending {
			t.Fatalf("node %d: %v of one that does not wait", k, o)
		}
		x.fate = o.Fate
		switch {
		case o.Fate == api.Delivered && (!h.Sent || h.Frame != x.post.Frame || o.At != now):
			t.Fatalf("node %d, %d: %v, and %v happened", k, now, o, h)
		case o.Fate == api.Cancelled && !x.aborted:
			t.Fatalf("node %d: %v, and nobody took it away", k, o)
		case o.Fate == api.Failed && (!x.post.Once || x.aborted):
			t.Fatalf("node %d: %v of %v", k, o, x)
		}
	}
	tags := c.Tags()
	busy, sends := c.Busy()
	if sends && !slices.Contains(tags, busy) {
		t.Fatalf("node %d sends %d, which does not wait", k, busy)
	}
	if x := lives[ahead]; x != nil && !(sends && busy == ahead) {
		x.tried = true
	}
	for tag, x := range lives {
		if slices.Contains(tags, tag) != (x.fate == api.Pending) {
			t.Fatalf("node %d: %v, and these wait: %v", k, x, tags)
		}
		tries := sends && busy == tag
		if x.fate == api.Pending && !tries && (x.tried && x.post.Once || x.aborted) {
			t.Fatalf("node %d: %v waits", k, x)
		}
	}
	if h.Sent && lives[ahead] != nil && lives[ahead].fate != api.Delivered {
		t.Fatalf("node %d: %v was sent", k, lives[ahead])
	}
}

// goes has so many bits go by, at which posts come, and are taken away, and now and then a bit is flipped.
func (n *network) goes(t *testing.T, chance *rand.Rand, bits int, flips bool) {
	t.Helper()
	for range bits {
		k := chance.Intn(len(n.ctrls))
		switch chance.Intn(60) {
		case 0, 1, 2:
			n.submit(t, chance, k)
		case 3:
			n.abort(t, chance, k)
		}
		if flips && chance.Intn(200) == 0 {
			n.bit(t, chance.Intn(len(n.ctrls)))
		} else {
			n.bit(t)
		}
		n.reads(t, flips)
	}
}

// reads fails unless what is read was got just now, since somebody began to send it.
func (n *network) reads(t *testing.T, flips bool) {
	t.Helper()
	for k, c := range n.ctrls {
		s, ok := c.Read()
		if !ok {
			continue
		}
		dry(t, c)
		tag := int(s.Frame.Data[1])<<8 | int(s.Frame.Data[2])
		if x := n.lives[s.Frame.Data[0]][tag]; x == nil || x.post.Frame != s.Frame {
			t.Fatalf("node %d got %v, which nobody has sent", k, s)
		}
		if now := int64(n.bus.Time()) - 1; s.To != now || !flips && s.From != n.began {
			t.Fatalf("node %d got %v at %d, of which somebody sent the first bit at %d", k, s, now, n.began)
		}
	}
}

func TestBesideNodes(t *testing.T) { // P15.2 to P15.4, beside nodes on a bus
	chance := rand.New(rand.NewSource(45))
	seen := map[api.Fate]int{}
	for try := range 40 {
		n := newNetwork(t, 2+try%3)
		n.goes(t, chance, 1500, try%2 == 1)
		for range 3000 { // they come to rest
			n.bit(t)
			n.reads(t, true)
		}
		for k := range n.ctrls {
			for _, x := range n.lives[k] {
				seen[x.fate]++
				if x.fate == api.Pending || x.fate != api.Delivered && !x.aborted && !x.post.Once {
					t.Fatalf("node %d: %v at last", k, x)
				}
			}
		}
	}
	for _, fate := range []api.Fate{api.Delivered, api.Cancelled, api.Failed} {
		if seen[fate] < 20 {
			t.Errorf("just %d posts have the fate %d", seen[fate], fate)
		}
	}
}

func TestAlone(t *testing.T) { // P15.4: nobody answers
	n := newNetwork(t, 1)
	for range 11 {
		n.bit(t)
	}
	for _, p := range []api.Post{plain(1, 5), once(2, 4)} {
		submits(t, n.ctrls[0], p, p.Tag-1)
		n.lives[0][p.Tag] = &life{post: p}
	}
	for range 500 {
		n.bit(t)
	}
	if x := n.lives[0][2]; x.fate != api.Failed {
		t.Errorf("%v behind a try that nobody answered", x)
	}
	if x := n.lives[0][1]; x.fate != api.Pending || !x.tried {
		t.Errorf("%v behind tries that nobody answered", x)
	}
}
