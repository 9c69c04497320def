package bus

import (
	"bytes"
	"math/rand"
	"slices"
	"testing"

	"bellbuoy/api"
	"bellbuoy/ident"
	"bellbuoy/wire"
)

// record is what was sent, in order, and how often each node got each frame.
type record struct {
	sent []api.Note
	got  map[api.Note]int
}

// note is a node and a frame.
func note(k int, f api.Frame) api.Note { return api.Note{Node: k, Happen: api.Happen{Frame: f}} }

func (r *record) add(notes []api.Note) {
	for _, x := range notes {
		if x.Happen.Sent {
			r.sent = append(r.sent, note(x.Node, x.Happen.Frame))
		}
		if x.Happen.Got {
			r.got[note(x.Node, x.Happen.Frame)]++
		}
	}
}

// ordered is the nodes' frames, in the order in which they win.
func ordered(list []api.Frame) []api.Note {
	var all []api.Note
	for k, f := range list {
		all = append(all, note(k, f))
	}
	slices.SortFunc(all, func(x, y api.Note) int {
		f, g := x.Happen.Frame, y.Happen.Frame
		if ident.Wins(f.Id, f.Remote, g.Id, g.Remote) {
			return -1
		}
		return 1
	})
	return all
}

// span is how many bits frames take, sent one behind the other, from the first bit of all on.
func span(list []api.Frame) int {
	bits := 11
	for _, f := range list {
		bits += wire.Long(f) + 3
	}
	return bits
}

func TestOneBehindTheOther(t *testing.T) { // P12.5, and the chapter's example
	sets := [][]api.Frame{
		{told(short(3)), told(short(1)), told(short(2))},
		{told(long(0x48c0000)), asked(long(0x48c0000), 0), asked(short(0x123), 8), plain},
		{told(long(0x1fffffff), 255), asked(long(0x1fffffff), 1), told(short(0x7ff), 255), asked(short(0x7ff), 1)},
		{told(short(0)), told(long(0))},
	}
	chance := rand.New(rand.NewSource(25))
	for n := 2; n <= api.MaxNodes; n++ {
		sets = append(sets, unlike(chance, n))
	}
	for range 100 {
		sets = append(sets, unlike(chance, 2+chance.Intn(5)))
	}
	for _, list := range sets {
		b, r := given(t, list), &record{got: map[api.Note]int{}}
		bits, at := span(list), 11
		ends := map[int]api.Note{}
		for _, x := range ordered(list) {
			at += wire.Long(x.Happen.Frame)
			ends[at] = x
			at += 3
		}
		for now := 1; now <= bits+200; now++ {
			_, notes := b.Step()
			r.add(notes)
			inOne(t, notes, ends, now, len(list))
		}
		fair(t, list, r, 1)
		for k := range list {
			if b.Phase(k) != api.Ready || b.Counts(k) != (api.Counts{}) {
				t.Fatalf("%v: node %d: phase %d, %v", list, k, b.Phase(k), b.Counts(k))
			}
		}
	}
}

// inOne fails unless a frame is sent just at the bit behind which it ought to end, and got by all others a bit ahead.
func inOne(t *testing.T, notes []api.Note, ends map[int]api.Note, now, nodes int) {
	t.Helper()
	sent, gets := 0, 0
	for _, x := range notes {
		h := x.Happen
		if h.Sent {
			sent++
		}
		if h.Got {
			gets++
		}
		if h.Sent && ends[now] != note(x.Node, h.Frame) || h.Got && ends[now+1].Happen.Frame != h.Frame || h.Bad != api.NoBad {
			t.Fatalf("behind %d bits: %v", now, notes)
		}
	}
	_, end := ends[now]
	_, valid := ends[now+1]
	if (sent == 1) != end || sent > 1 || valid && gets != nodes-1 || !valid && gets > 0 {
		t.Fatalf("behind %d bits: %v", now, notes)
	}
}

// fair fails unless each frame was sent just once, in the order in which they win where nothing was flipped, and got by each other node once, or up to so many times; and nothing else was got.
func fair(t *testing.T, list []api.Frame, r *record, most int) {
	t.Helper()
	want, sent := ordered(list), r.sent
	if most > 1 {
		sent = slices.Clone(sent)
		order := func(x, y api.Note) int { return x.Node - y.Node }
		slices.SortFunc(want, order)
		slices.SortFunc(sent, order)
	}
	if !slices.Equal(sent, want) {
		t.Fatalf("%v: sent were %v; want %v", list, sent, want)
	}
	for k, f := range list {
		for j := range list {
			if n := r.got[note(j, f)]; j != k && (n < 1 || n > most) {
				t.Fatalf("%v: node %d got frame %d %d times", list, j, k, n)
			}
		}
	}
	if len(r.got) != len(list)*(len(list)-1) {
		t.Fatalf("%v: got were %v", list, r.got)
	}
}

func TestOneFlip(t *testing.T) { // P12.6: at each bit behind the eleventh, at each node, who sends and who hears
	chance := rand.New(rand.NewSource(26))
	sets := [][]api.Frame{
		{told(short(3)), told(short(1)), told(short(2))},
		{told(short(0x7f8)), asked(long(0x1fe00000), 8)},
		{told(long(0x48c0000), 0, 0), asked(long(0x48c0000), 0), plain},
		{told(short(0), bytes.Repeat([]byte{255}, 8)...), asked(short(0), 0)},
		unlike(chance, 2),
		unlike(chance, 3),
		unlike(chance, 4),
	}
	for _, list := range sets {
		bits := span(list)
		for at := 11; at < bits+20; at++ {
			for k := range list {
				b, r := given(t, list), &record{got: map[api.Note]int{}}
				for now := range 2*bits + 200 {
					flips := []int{k}
					if now != at {
						flips = nil
					}
					_, notes := b.Step(flips...)
					r.add(notes)
				}
				fair(t, list, r, 2)
			}
		}
	}
}

// event is what happened at a bit, from the first one of a frame on.
type event struct {
	at    int
	notes []api.Note
}

func bad(k int, what api.Bad) []api.Note {
	return []api.Note{{Node: k, Happen: api.Happen{Bad: what}}}
}

func TestOneFlipWrittenOut(t *testing.T) { // P12.2, P12.6: node 0 sends 123#0a, that is 0, 00100100011, 000, .., and node 1 hears
	end := wire.Long(plain) - 1
	began := []api.Note{{Node: 0, Happen: api.Happen{Began: true}}}
	got := []api.Note{{Node: 1, Happen: api.Happen{Got: true, Frame: plain}}}
	sent := []api.Note{{Node: 0, Happen: api.Happen{Sent: true, Frame: plain}}}
	lost := []api.Note{{Node: 0, Happen: api.Happen{Lost: true}}}
	first := []api.Note{{Node: 0, Happen: api.Happen{Began: true, Bad: api.BitError}}}
	whole := func(from int) []event { // the frame, from a bit on
		return []event{{from, began}, {from + end - 1, got}, {from + end, sent}}
	}
	for _, c := range []struct {
		at, k  int
		events [][]event
	}{
		{0, 0, [][]event{{{0, first}, {5, bad(1, api.StuffBad)}}, whole(23)}},
		{1, 0, [][]event{{{0, began}, {1, bad(0, api.BitError)}, {5, bad(1, api.StuffBad)}}, whole(23)}},
		{3, 0, [][]event{{{0, began}, {3, lost}, {8, bad(1, api.StuffBad)}, {14, bad(0, api.StuffBad)}}, whole(32)}}, // nobody goes on
		{end - 8, 0, [][]event{{{0, began}, {end - 8, bad(0, api.AckBad)}, {end - 7, bad(1, api.FormBad)}}, whole(end + 11)}},
		{end - 8, 1, [][]event{whole(0)}}, // who answers does not mind
		{end - 1, 1, [][]event{{{0, began}, {end - 1, bad(1, api.FormBad)}, {end, bad(0, api.BitError)}}, whole(end + 18)}},
		{end - 1, 0, [][]event{{{0, began}, {end - 1, append(bad(0, api.BitError), got...)}, {end, bad(1, api.Overloads)}}, whole(end + 18)}}, // it is got twice
		{end, 0, [][]event{{{0, began}, {end - 1, got}, {end, bad(0, api.BitError)}, {end + 1, bad(1, api.Overloads)}}, whole(end + 19)}},
		{end, 1, [][]event{{{0, began}, {end - 1, got}, {end, append(sent, bad(1, api.Overloads)...)}, {end + 1, bad(0, api.Overloads)}}}},
		{end + 1, 1, [][]event{whole(0), {{end + 1, bad(1, api.Overloads)}, {end + 2, bad(0, api.Overloads)}}}},
		{end + 2, 0, [][]event{whole(0), {{end + 2, bad(0, api.Overloads)}, {end + 8, bad(1, api.StuffBad)}}}},  // the other one hears its third bit
		{end + 3, 0, [][]event{whole(0), {{end + 9, bad(0, api.StuffBad)}, {end + 15, bad(1, api.StuffBad)}}}},  // it begins to hear what nobody sends
		{end + 4, 1, [][]event{whole(0), {{end + 10, bad(1, api.StuffBad)}, {end + 16, bad(0, api.StuffBad)}}}}, // likewise, when it is ready
	} {
		b := made(t, 2)
		gives(t, b, 0, plain)
		goes(b, 11)
		var events []event
		for at := range 3 * wire.Long(plain) {
			flips := []int{c.k}
			if at != c.at {
				flips = nil
			}
			if _, notes := b.Step(flips...); len(notes) > 0 {
				events = append(events, event{at, notes})
			}
		}
		want := slices.Concat(c.events...)
		if !slices.EqualFunc(events, want, func(x, y event) bool { return x.at == y.at && slices.Equal(x.notes, y.notes) }) {
			t.Errorf("node %d flipped at %d: %v; want %v", c.k, c.at, events, want)
		}
	}
}

// watch has a bit go by, without a flip, and fails unless all that were hearing get what one gets, and that is a frame that was given; it answers what was sent, and what was got, and by whom.
func watch(t *testing.T, b *Bus, given map[api.Frame]struct{}) (sent []api.Note, got api.Frame, by []int) {
	t.Helper()
	var hearing []int
	for k := range b.Nodes() {
		if b.Phase(k) == api.Hearing {
			hearing = append(hearing, k)
		}
	}
	_, notes := b.Step()
	for _, x := range notes {
		f := x.Happen.Frame
		if x.Happen.Sent {
			sent = append(sent, note(x.Node, f))
		}
		if !x.Happen.Got {
			continue
		}
		if _, ok := given[f]; !ok || len(by) > 0 && f != got {
			t.Fatalf("at %d %v was got, that was not given, or is another one: %v", b.Time(), f, notes)
		}
		got = f
		by = append(by, x.Node)
	}
	if len(by) > 0 && !slices.Equal(by, hearing) {
		t.Fatalf("at %d nodes %v got %v, of those that heard: %v", b.Time(), by, got, hearing)
	}
	return sent, got, by
}

func TestAgreementAndTruth(t *testing.T) { // P12.3, P12.4: whatever crashes, and is switched on
	chance := rand.New(rand.NewSource(27))
	gets := 0
	for round := range 400 {
		n := 1 + chance.Intn(6)
		b := made(t, n)
		given := map[api.Frame]struct{}{}
		alike := round%3 == 0 // all ask with few identifiers
		calm := 20 + chance.Intn(300)
		for range 4000 {
			if k := chance.Intn(n); chance.Intn(calm) == 0 && b.Crash(k) != api.OK {
				b.Restart(k)
			}
			f := anyFrame(chance)
			if alike {
				f.Id.N &= 1
			}
			if chance.Intn(30) == 0 && b.Ask(chance.Intn(n), f) == api.OK {
				given[f] = struct{}{}
			}
			if _, _, by := watch(t, b, given); len(by) > 0 {
				gets++
			}
		}
	}
	if gets < 3000 {
		t.Errorf("only %d frames were got", gets)
	}
}

func TestSentWasGot(t *testing.T) { // P12.3, P12.5: without a flip and a crash, whenever frames that ask unlike are given, who sends one has had it got by all others a bit ahead
	chance := rand.New(rand.NewSource(28))
	for range 60 {
		n := 2 + chance.Intn(5)
		b := made(t, n)
		given := map[api.Frame]struct{}{}
		asks, sends := 0, 0
		var was api.Frame
		var had []int
		for now := range 5000 {
			if k := chance.Intn(n); chance.Intn(40) == 0 && now < 4000 {
				f := anyFrame(chance)
				f.Id.N = f.Id.N/32*32 + uint32(k) // no two nodes ask alike
				if b.Ask(k, f) == api.OK {
					given[f] = struct{}{}
					asks++
				}
			}
			sent, got, by := watch(t, b, given)
			for _, x := range sent {
				sends++
				if len(sent) != 1 || x.Happen.Frame != was || len(had) != n-1 || slices.Contains(had, x.Node) {
					t.Fatalf("at %d %v was sent; %v got %v a bit ahead", b.Time(), sent, had, was)
				}
			}
			was, had = got, by
		}
		if asks < 30 || sends != asks {
			t.Fatalf("%d frames were given, %d sent", asks, sends)
		}
	}
}

func TestCrashAtEachBit(t *testing.T) { // P12.1, P12.3: who sends and who hears is off with each bit of a frame, and is switched on again
	other := told(short(0x7f0), 0, 0, 255)
	for _, f := range []api.Frame{plain, asked(long(0x48c0010), 3), told(short(0), 0, 0)} {
		for off := range wire.Long(f) + 3 {
			for k := range 2 {
				for _, later := range []int{0, 1, 5, 30, 300} {
					crashed(t, f, other, off, k, later)
				}
			}
		}
	}
}

// crashed has node 0 send f, and node 2 another frame behind it; node k is off ahead of a bit of f, and on again so many bits later.
func crashed(t *testing.T, f, other api.Frame, off, k, later int) {
	t.Helper()
	b := made(t, 3)
	gives(t, b, 0, f)
	gives(t, b, 2, other)
	given := map[api.Frame]struct{}{f: {}, other: {}}
	r := map[api.Note]int{}
	for now := range 1000 {
		if now == 11+off && b.Crash(k) != api.OK {
			t.Fatalf("node %d can't crash", k)
		}
		if now == 11+off+later {
			gone(t, b, k)
			if b.Restart(k) != api.OK {
				t.Fatalf("node %d can't be switched on", k)
			}
			newly(t, b, k)
		}
		sent, got, by := watch(t, b, given)
		for _, x := range sent {
			r[x]++
		}
		for _, j := range by {
			r[note(j, got)] += 100
		}
	}
	long := wire.Long(f)
	mine, theirs := r[note(0, f)], r[note(1, f)]/100
	if theirs != r[note(2, f)]/100 && k != 1 || r[note(2, other)] != 1 {
		t.Fatalf("%v, node %d off at %d for %d: %v", f, k, off, later, r)
	}
	if k == 0 && (mine == 1) != (off >= long) || k == 0 && off >= long-10 && theirs != 1 {
		t.Fatalf("%v, who sends off at %d for %d: sent %d times, got %d times", f, off, later, mine, theirs)
	}
	if k == 1 && (mine != 1 || r[note(2, f)] != 100 || theirs == 1 != (off >= long-1)) {
		t.Fatalf("%v, who hears off at %d for %d: sent %d times, got %d times", f, off, later, mine, theirs)
	}
	gives(t, b, 2, other) // who is on again takes part
	record := &record{got: map[api.Note]int{}}
	record.add(goes(b, 300))
	if !slices.Equal(record.sent, []api.Note{note(2, other)}) || len(record.got) != 2 || record.got[note(0, other)] != 1 || record.got[note(1, other)] != 1 {
		t.Fatalf("%v, node %d off at %d for %d: behind all that %v", f, k, off, later, record)
	}
}

func TestSeveralFlips(t *testing.T) { // P12.2: all that are named hear the other bit, at once
	for _, c := range []struct {
		flips []int
		want  []api.Note
	}{
		{[]int{2, 1, 2}, append(bad(1, api.FormBad), bad(2, api.FormBad)...)},
		{[]int{0, 2}, append(bad(0, api.BitError), bad(2, api.FormBad)...)},
		{[]int{1, 7, -1, 3}, bad(1, api.FormBad)},
		{[]int{2, 0, 1, 0}, append(append(bad(0, api.BitError), bad(1, api.FormBad)...), bad(2, api.FormBad)...)},
	} {
		b := made(t, 3)
		gives(t, b, 0, plain)
		goes(b, 11+wire.Long(plain)-3)
		if bit, notes := b.Step(c.flips...); bit != 1 || !slices.Equal(notes, c.want) {
			t.Errorf("flipped %v: %d, %v; want %v", c.flips, bit, notes, c.want)
		}
		goes(b, 300)
		if _, ok := b.Asked(0); ok {
			t.Errorf("flipped %v: it is not sent", c.flips)
		}
	}
}
