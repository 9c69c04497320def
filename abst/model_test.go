package abst_test

import (
	"math/rand"
	"slices"
	"testing"

	"bellbuoy/abst"
	"bellbuoy/api"
	"bellbuoy/bus"
	"bellbuoy/trace"
)

// given is how often a node, or any, was given a frame, by the chapter's words.
func given(l []abst.Gift, node, at int, f api.Frame) int {
	own := slices.DeleteFunc(slices.Clone(l), func(g abst.Gift) bool {
		return g.Frame != f || g.At > at || node != -1 && node != g.Node
	})
	return len(own)
}

// wanted is what Check ought to answer: each entry is held against all those ahead.
func wanted(l []abst.Gift, es []api.Entry) (int, api.Errno) {
	for k, e := range es {
		if errno := wrong(l, es[:k], e); errno != api.OK {
			return k, errno
		}
	}
	return len(es), api.OK
}

func wrong(l []abst.Gift, ahead []api.Entry, e api.Entry) api.Errno {
	node, h := e.Note.Node, e.Note.Happen
	often, unlike, answered := 1, false, false
	for _, x := range ahead {
		y := x.Note.Happen
		same := y.Frame == h.Frame
		if y.Sent && same && x.Note.Node == node {
			often++
		}
		unlike = unlike || y.Got && x.At == e.At && !same
		answered = answered || y.Got && x.At == e.At-1 && same && x.Note.Node != node
	}
	switch {
	case !trace.Right(e.Note):
		return api.ErrKind
	case e.At < 0 || e.At > last || len(ahead) > 0 && e.At < ahead[len(ahead)-1].At:
		return api.ErrRange
	case h.Got && given(l, -1, e.At, h.Frame) == 0, h.Sent && given(l, node, e.At, h.Frame) == 0:
		return api.ErrNone
	case h.Sent && often > given(l, node, e.At, h.Frame):
		return api.ErrTwice
	case h.Got && unlike:
		return api.ErrForm
	case h.Sent && !answered:
		return api.ErrState
	}
	return api.OK
}

// open is what Open ought to answer: gifts are taken away one by one.
func open(l []abst.Gift, es []api.Entry) []abst.Gift {
	left := slices.Clone(l)
	for _, e := range es {
		if !trace.Right(e.Note) || !e.Note.Happen.Sent {
			continue
		}
		at := slices.IndexFunc(left, func(g abst.Gift) bool { return g.Node == e.Note.Node && g.Frame == e.Note.Happen.Frame })
		if at >= 0 {
			left = slices.Delete(left, at, at+1)
		}
	}
	return left
}

// agreed is what Agreed ought to answer: entries are cut where the bit is another one.
func agreed(es []api.Entry) []abst.Agreement {
	var all []abst.Agreement
	for from := 0; from < len(es); {
		to := from
		var gets []api.Frame
		for to < len(es) && es[to].At == es[from].At {
			if h := es[to].Note.Happen; h.Got {
				gets = append(gets, h.Frame)
			}
			to++
		}
		if len(gets) > 0 {
			a := abst.Agreement{At: es[from].At, Frame: gets[0]}
			for _, f := range gets {
				if f == gets[0] {
					a.Nodes++
				}
			}
			all = append(all, a)
		}
		from = to
	}
	return all
}

// asks fails unless all calls answer as the models do; it answers what Check does.
func asks(t *testing.T, l []abst.Gift, es []api.Entry) (int, api.Errno) {
	t.Helper()
	place, errno := wanted(l, es)
	if at, e := abst.Check(l, es); at != place || e != errno {
		t.Fatalf("Check(%v, %v) = %d, %d; want %d, %d", l, es, at, e, place, errno)
	}
	if o, want := abst.Open(l, es), open(l, es); !slices.Equal(o, want) {
		t.Fatalf("Open(%v, %v) = %v; want %v", l, es, o, want)
	}
	if a, want := abst.Agreed(es), agreed(es); !slices.Equal(a, want) {
		t.Fatalf("Agreed(%v) = %v; want %v", es, a, want)
	}
	return place, errno
}

// anyGifts are some of a few frames, to a few nodes.
func anyGifts(chance *rand.Rand) []abst.Gift {
	var l []abst.Gift
	for range 1 + chance.Intn(8) {
		l = append(l, gift(chance.Intn(4), chance.Intn(30)-3, frames[chance.Intn(3)]))
	}
	if chance.Intn(10) == 0 {
		l = append(l, gift(chance.Intn(40)-4, chance.Intn(30), append(frames, noFrames...)[chance.Intn(8)]))
	}
	return l
}

// anyEntries are such as mostly come of gifts: what was given is got, and then mostly sent.
func anyEntries(chance *rand.Rand, l []abst.Gift) []api.Entry {
	var es []api.Entry
	at := 10
	for range chance.Intn(7) {
		g := l[chance.Intn(len(l))]
		at = max(at+chance.Intn(3)-chance.Intn(20)/19, g.At)
		for node := range 4 {
			switch {
			case chance.Intn(6) == 0:
				es = append(es, began(at, node))
			case node != g.Node || chance.Intn(20) == 0:
				es = append(es, got(at, node, g.Frame))
			}
		}
		if chance.Intn(8) > 0 {
			at++
			es = append(es, sent(at, g.Node, g.Frame))
		}
	}
	return es
}

// spoilt is entries of which one is perhaps another, or gone.
func spoilt(chance *rand.Rand, es []api.Entry) []api.Entry {
	if len(es) == 0 {
		return es
	}
	k := chance.Intn(len(es))
	n := &es[k].Note
	switch chance.Intn(14) {
	case 0:
		es[k].At += chance.Intn(5) - 2
	case 1:
		n.Node = chance.Intn(40) - 4
	case 2:
		n.Happen.Frame = frames[chance.Intn(len(frames))]
	case 3:
		n.Happen.Frame.Len = chance.Intn(12) - 1
	case 4:
		n.Happen.Sent, n.Happen.Got = n.Happen.Got, n.Happen.Sent
	case 5:
		n.Happen.Sent = true
	case 6:
		es = slices.Delete(es, k, k+1)
	case 7:
		es = append(es, es[k])
	case 8:
		n.Node = (n.Node + 1) % 4
	}
	return es
}

func TestAnyEntries(t *testing.T) { // P33.1, P33.2, P33.4
	chance := rand.New(rand.NewSource(201))
	count := map[api.Errno]int{}
	long := 0
	for range 60000 {
		l := anyGifts(chance)
		es := spoilt(chance, anyEntries(chance, l))
		place, errno := asks(t, l, es)
		count[errno]++
		if errno == api.OK && len(es) > 8 {
			long++
		}
		for n := range place + 1 { // up to each entry it passes
			if at, e := abst.Check(l, es[:n]); at != n || e != api.OK {
				t.Fatalf("Check(%v, %v) = %d, %d; want %d, OK", l, es[:n], at, e, n)
			}
		}
		more := slices.Concat(l, anyGifts(chance)) // as do these with more gifts, wherever they stand
		chance.Shuffle(len(more), func(a, b int) { more[a], more[b] = more[b], more[a] })
		if at, e := abst.Check(more, es[:place]); at != place || e != api.OK {
			t.Fatalf("Check(%v, %v) = %d, %d; want %d, OK", more, es[:place], at, e, place)
		}
		for _, f := range append(frames[:3:3], noFrames[0]) {
			node, at := chance.Intn(6)-1, chance.Intn(30)-3
			if n := abst.Given(l, node, at, f); n != given(l, node, at, f) {
				t.Fatalf("Given(%v, %d, %d, %v) = %d", l, node, at, f, n)
			}
		}
	}
	for _, errno := range []api.Errno{api.OK, api.ErrKind, api.ErrRange, api.ErrNone, api.ErrTwice, api.ErrForm, api.ErrState} {
		if count[errno] < 500 {
			t.Errorf("%d only %d times", errno, count[errno])
		}
	}
	if long < 5000 {
		t.Errorf("only %d long ones pass", long)
	}
}

func TestAllShort(t *testing.T) { // P33.1, P33.2: all lists of three entries that begin, got or sent, of two nodes, and two frames, at three bits
	var any []api.Entry
	for at := range 3 {
		any = append(any, began(at, 0))
		for node := range 2 {
			for _, f := range frames[:2] {
				any = append(any, got(at, node, f), sent(at, node, f))
			}
		}
	}
	count := map[api.Errno]int{}
	for _, l := range [][]abst.Gift{
		nil,
		{gift(0, 0, plain)},
		{gift(0, 1, plain)},
		{gift(1, 0, other), gift(0, 0, plain)},
		{gift(0, 2, plain), gift(0, 0, plain), gift(1, 1, plain)},
		{gift(0, 0, plain), gift(0, 0, plain), gift(1, 0, plain), gift(0, 0, other), gift(1, 2, other)},
	} {
		for _, a := range any {
			for _, b := range any {
				for _, c := range any {
					_, errno := asks(t, l, []api.Entry{a, b, c})
					count[errno]++
				}
			}
		}
	}
	for _, errno := range []api.Errno{api.OK, api.ErrRange, api.ErrNone, api.ErrTwice, api.ErrForm, api.ErrState} {
		if count[errno] < 20 {
			t.Errorf("%d only %d times", errno, count[errno])
		}
	}
}

// anyFrame is any frame that can be, of a node's own, that asks unlike those of others.
func anyFrame(chance *rand.Rand, node int) api.Frame {
	f := api.Frame{Id: api.Ident{N: chance.Uint32()>>21&^31 | uint32(node)}, Remote: chance.Intn(3) == 0, Len: chance.Intn(9)}
	if chance.Intn(2) == 0 {
		f.Id = api.Ident{Ext: true, N: chance.Uint32()>>3&^31 | uint32(node)}
	}
	if !f.Remote {
		chance.Read(f.Data[:f.Len])
	}
	if chance.Intn(3) == 0 { // one that it is given again and again
		f = api.Frame{Id: api.Ident{N: uint32(node)}}
	}
	return f
}

// ran is what a bus did, and what its nodes were given.
type ran struct {
	gifts   []abst.Gift
	entries []api.Entry
	waits   []abst.Gift // those that are not sent so far
}

// runs has a bus of so many nodes do something, without a flip and a crash.
func runs(chance *rand.Rand, nodes int) ran {
	var r ran
	b, _ := bus.New(nodes)
	for b.Time() < 3000 {
		for k := range nodes {
			if f := anyFrame(chance, k); chance.Intn(400) == 0 && b.Ask(k, f) == api.OK {
				r.gifts = append(r.gifts, gift(k, b.Time(), f))
			}
		}
		at := b.Time()
		_, notes := b.Step()
		for _, n := range notes {
			r.entries = append(r.entries, api.Entry{At: at, Note: n})
		}
	}
	for k, g := range r.gifts {
		later := slices.ContainsFunc(r.gifts[k+1:], func(x abst.Gift) bool { return x.Node == g.Node })
		if _, asked := b.Asked(g.Node); asked && !later {
			r.waits = append(r.waits, g)
		}
	}
	return r
}

func TestOfBus(t *testing.T) { // P33.2, P33.3
	chance := rand.New(rand.NewSource(202))
	total, waits := 0, 0
	for round := range 150 {
		nodes := 1 + round%9
		if round == 0 {
			nodes = api.MaxNodes
		}
		r := runs(chance, nodes)
		if at, errno := abst.Check(r.gifts, r.entries); at != len(r.entries) || errno != api.OK {
			t.Fatalf("Check(%v, %v) = %d, %d", r.gifts, r.entries, at, errno)
		}
		if l := abst.Open(r.gifts, r.entries); !slices.Equal(l, r.waits) {
			t.Fatalf("Open(%v, %v) = %v; want %v", r.gifts, r.entries, l, r.waits)
		}
		waits += len(r.waits)
		list := abst.Agreed(r.entries)
		var sends []abst.Agreement
		for _, e := range r.entries {
			if h := e.Note.Happen; h.Sent {
				sends = append(sends, abst.Agreement{At: e.At - 1, Frame: h.Frame, Nodes: nodes - 1})
			}
		}
		if n := len(list); n > len(sends) { // one that is sent behind the last bit
			list = list[:n-1]
		}
		if !slices.Equal(list, sends) {
			t.Fatalf("of %d nodes: Agreed(%v) = %v; want %v", nodes, r.entries, list, sends)
		}
		total += len(sends)
	}
	if total < 2000 || waits < 100 {
		t.Errorf("just %d frames, of which %d wait", total, waits)
	}
}

func TestNeverGivenOnBus(t *testing.T) { // P33.5: what nobody was given is refused at the first who got it, what who sent it was not given where that sent it
	chance := rand.New(rand.NewSource(203))
	refused := 0
	for range 30 {
		r := runs(chance, 2+chance.Intn(6))
		for range 10 {
			gone := r.gifts[chance.Intn(len(r.gifts))].Frame
			without := slices.DeleteFunc(slices.Clone(r.gifts), func(g abst.Gift) bool { return g.Frame == gone })
			place, errno := wanted(without, r.entries)
			if at, e := abst.Check(without, r.entries); at != place || e != errno {
				t.Fatalf("Check(%v, %v) = %d, %d; want %d, %d", without, r.entries, at, e, place, errno)
			}
			first := slices.IndexFunc(r.entries, func(e api.Entry) bool { return e.Note.Happen.Frame == gone && e.Note.Happen.Got })
			if first < 0 {
				continue
			}
			if place != first || errno != api.ErrNone {
				t.Fatalf("Check without %v = %d, %d; it was got at %d", gone, place, errno, first)
			}
			refused++
			without = append(without, gift(31, 0, gone))
			send := slices.IndexFunc(r.entries, func(e api.Entry) bool { return e.Note.Happen.Frame == gone && e.Note.Happen.Sent })
			if at, e := abst.Check(without, r.entries); send >= 0 && (at != send || e != api.ErrNone) {
				t.Fatalf("Check of %v given to another node = %d, %d; it was sent at %d", gone, at, e, send)
			}
		}
	}
	if refused < 200 {
		t.Errorf("just %d times", refused)
	}
}
