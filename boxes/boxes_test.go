package boxes

import (
	"math"
	"math/rand"
	"slices"
	"testing"

	"bellbuoy/api"
	"bellbuoy/frame"
	"bellbuoy/ident"
)

func short(n uint32) api.Ident { return api.Ident{N: n} }
func long(n uint32) api.Ident  { return api.Ident{Ext: true, N: n} }

// told is a post of these bytes, asked one that asks for so many.
func told(tag int, id api.Ident, data ...byte) api.Post {
	p := api.Post{Frame: api.Frame{Id: id, Len: len(data)}, Tag: tag}
	copy(p.Frame.Data[:], data)
	return p
}

func asked(tag int, id api.Ident, length int) api.Post {
	return api.Post{Frame: api.Frame{Id: id, Remote: true, Len: length}, Tag: tag}
}

// anyPost is any post that can be; many have one base, and many are alike.
func anyPost(chance *rand.Rand, tag int) api.Post {
	f := api.Frame{Remote: chance.Intn(3) == 0, Len: chance.Intn(9)}
	switch chance.Intn(5) {
	case 0:
		f.Id = short(0x123)
	case 1:
		f.Id = long(0x123<<18 | chance.Uint32()%3)
	case 2:
		f.Id = short(chance.Uint32() % 4)
	case 3:
		f.Id = short(chance.Uint32() >> 21)
	case 4:
		f.Id = long(chance.Uint32() >> 3)
	}
	if !f.Remote {
		chance.Read(f.Data[:f.Len])
	}
	return api.Post{Frame: f, Once: chance.Intn(2) == 0, Tag: tag}
}

// made is so many mailboxes, of which the first ones have these posts.
func made(t *testing.T, n int, list ...api.Post) *Boxes {
	t.Helper()
	b, errno := New(n)
	if b == nil || errno != api.OK {
		t.Fatalf("New(%d) = %v, %d", n, b, errno)
	}
	for i, p := range list {
		puts(t, b, p, i)
	}
	return b
}

// puts lays a post in; it fails unless that number has it then.
func puts(t *testing.T, b *Boxes, p api.Post, want int) {
	t.Helper()
	if i, errno := b.Put(p); i != want || errno != api.OK {
		t.Fatalf("Put(%v) = %d, %d; want %d", p, i, errno, want)
	}
}

// refuses fails unless a post is refused with that error.
func refuses(t *testing.T, b *Boxes, p api.Post, want api.Errno) {
	t.Helper()
	if i, errno := b.Put(p); i != -1 || errno != want {
		t.Errorf("Put(%v) = %d, %d; want -1, %d", p, i, errno, want)
	}
}

// takes takes a post out; it fails unless it is that one.
func takes(t *testing.T, b *Boxes, i int, want api.Post) {
	t.Helper()
	if p, errno := b.Take(i); p != want || errno != api.OK {
		t.Fatalf("Take(%d) = %v, %d; want %v", i, p, errno, want)
	}
}

// slot is what a mailbox must have.
type slot struct {
	full bool
	post api.Post
}

func (x slot) key() uint32 { return ident.Key(x.post.Frame.Id, x.post.Frame.Remote) }

// is fails unless the mailboxes tell what these must have.
func is(t *testing.T, b *Boxes, want []slot) {
	t.Helper()
	full, best := 0, -1
	for i, x := range want {
		if p, ok := b.Get(i); p != x.post || ok != x.full {
			t.Fatalf("Get(%d) = %v, %v; want %v", i, p, ok, x)
		}
		if !x.full {
			continue
		}
		full++
		if best == -1 || x.key() < want[best].key() {
			best = i
		}
		if b.Find(x.post.Tag) != i {
			t.Fatalf("Find(%d) = %d; want %d", x.post.Tag, b.Find(x.post.Tag), i)
		}
	}
	if b.Len() != full || b.Room() != len(want) || b.Best() != best {
		t.Fatalf("%d of %d, best %d; want %d of %d, best %d", b.Len(), b.Room(), b.Best(), full, len(want), best)
	}
	for _, i := range nowhere(len(want)) {
		if p, ok := b.Get(i); p != (api.Post{}) || ok {
			t.Fatalf("Get(%d) = %v, %v", i, p, ok)
		}
	}
}

// has is is, of so many mailboxes of which the first ones have these posts.
func has(t *testing.T, b *Boxes, n int, list ...api.Post) {
	t.Helper()
	want := make([]slot, n)
	for i, p := range list {
		want[i] = slot{true, p}
	}
	is(t, b, want)
}

// nowhere are numbers that so many mailboxes have not.
func nowhere(n int) []int {
	return []int{-1, -2, n, n + 1, api.MaxBoxes, api.MaxBoxes + 1, 1 << 32, math.MinInt, math.MaxInt}
}

// wrong are frames that can't be, each with its error.
var wrong = []struct {
	f    api.Frame
	want api.Errno
}{
	{api.Frame{Id: short(2048)}, api.ErrRange},
	{api.Frame{Id: long(1 << 29)}, api.ErrRange},
	{api.Frame{Id: short(2048), Len: 9}, api.ErrRange},
	{api.Frame{Len: 9}, api.ErrLen},
	{api.Frame{Len: -1}, api.ErrLen},
	{api.Frame{Len: math.MinInt, Data: [8]byte{1}}, api.ErrLen},
	{api.Frame{Data: [8]byte{1}}, api.ErrForm},
	{api.Frame{Len: 7, Data: [8]byte{7: 1}}, api.ErrForm},
	{api.Frame{Remote: true, Len: 8, Data: [8]byte{1}}, api.ErrForm},
}

func TestNew(t *testing.T) { // P13.1, P13.2
	for _, n := range []int{0, -1, -2, api.MaxBoxes + 1, 100, 1 << 32, math.MinInt, math.MaxInt} {
		if b, errno := New(n); b != nil || errno != api.ErrRange {
			t.Errorf("New(%d) = %v, %d", n, b, errno)
		}
	}
	for n := 1; n <= api.MaxBoxes; n++ {
		b := made(t, n)
		has(t, b, n)
		for _, tag := range []int{0, -1, 1, math.MinInt, math.MaxInt} { // none is found in an empty one
			if b.Find(tag) != -1 {
				t.Errorf("Find(%d) = %d of none", tag, b.Find(tag))
			}
		}
	}
}

func TestNil(t *testing.T) { // P13.2
	var b *Boxes
	posts := []api.Post{{}, told(1, short(5), 1), {Frame: api.Frame{Id: short(2048)}}, {Frame: api.Frame{Len: 9}}}
	for _, p := range posts {
		refuses(t, b, p, api.ErrNone)
	}
	for _, i := range append(nowhere(0), 0, 1) {
		if p, errno := b.Take(i); p != (api.Post{}) || errno != api.ErrNone {
			t.Errorf("Take(%d) = %v, %d", i, p, errno)
		}
		if b.Find(i) != -1 {
			t.Errorf("Find(%d) = %d", i, b.Find(i))
		}
	}
	has(t, b, 0)
}

func TestPut(t *testing.T) { // P13.1, P13.4: up to the last one, and one more
	for n := 1; n <= api.MaxBoxes; n++ {
		b := made(t, n)
		var list []api.Post
		for i := range n {
			p := told(100-i, short(uint32(i)), byte(i), 255)
			p.Once = i%2 == 0
			puts(t, b, p, i)
			list = append(list, p)
			has(t, b, n, list...)
		}
		for range 3 {
			refuses(t, b, told(1, short(0)), api.ErrFull)
			has(t, b, n, list...)
		}
	}
}

func TestPutErrors(t *testing.T) { // P13.1: the frame's ahead of what is there twice, and that ahead of what is full
	one, two := told(0, short(5), 1), told(-7, long(3), 2, 3)
	for n := 1; n <= 3; n++ {
		list := []api.Post{one, two}[:min(n, 2)]
		b := made(t, n, list...)
		for _, x := range wrong {
			for _, tag := range []int{1, 0, -7} {
				if frame.Right(x.f) != x.want {
					t.Fatalf("frame.Right(%v) = %d", x.f, frame.Right(x.f))
				}
				refuses(t, b, api.Post{Frame: x.f, Tag: tag}, x.want)
			}
		}
		for _, p := range list {
			refuses(t, b, p, api.ErrTwice)
			refuses(t, b, asked(p.Tag, short(1), 8), api.ErrTwice)
			refuses(t, b, api.Post{Tag: p.Tag, Once: true}, api.ErrTwice)
		}
		has(t, b, n, list...)
	}
}

func TestTags(t *testing.T) { // P13.1, P13.2: any number is one
	tags := []int{0, -1, api.TurnTag, api.FollowTag, math.MinInt, math.MaxInt, 1 << 32, 1}
	b := made(t, len(tags))
	var list []api.Post
	for i, tag := range tags {
		if b.Find(tag) != -1 {
			t.Errorf("Find(%d) = %d, ahead of it", tag, b.Find(tag))
		}
		p := told(tag, short(9))
		puts(t, b, p, i)
		list = append(list, p)
		has(t, b, len(tags), list...)
	}
	for i, p := range list {
		takes(t, b, i, p)
		if b.Find(p.Tag) != -1 {
			t.Errorf("Find(%d) = %d, behind it", p.Tag, b.Find(p.Tag))
		}
	}
	has(t, b, len(tags))
}

func TestTake(t *testing.T) { // P13.1
	one, two := told(1, short(5), 1), told(2, short(3), 2)
	b := made(t, 3, one, two)
	for _, i := range nowhere(3) {
		if p, errno := b.Take(i); p != (api.Post{}) || errno != api.ErrRange {
			t.Errorf("Take(%d) = %v, %d", i, p, errno)
		}
	}
	if p, errno := b.Take(2); p != (api.Post{}) || errno != api.ErrNone {
		t.Errorf("Take(2) = %v, %d of an empty one", p, errno)
	}
	has(t, b, 3, one, two)
	takes(t, b, 0, one)
	if p, errno := b.Take(0); p != (api.Post{}) || errno != api.ErrNone {
		t.Errorf("Take(0) = %v, %d of what was taken", p, errno)
	}
	is(t, b, []slot{{}, {true, two}, {}})
}

func TestPutAgain(t *testing.T) { // P13.1, P13.4: where it was, or ahead of that
	for n := 1; n <= api.MaxBoxes; n++ {
		var list []api.Post
		for i := range n {
			list = append(list, told(i, short(uint32(i+1)), byte(i)))
		}
		b := made(t, n, list...)
		for i, p := range list { // full behind it, and ahead
			takes(t, b, i, p)
			puts(t, b, p, i)
			has(t, b, n, list...)
		}
		for i := range n - 1 { // and with an empty one ahead
			last := list[n-1]
			takes(t, b, i, list[i])
			takes(t, b, n-1, last)
			puts(t, b, last, i)
			refuses(t, b, last, api.ErrTwice)
			want := make([]slot, n)
			for k, p := range list[:n-1] {
				want[k] = slot{true, p}
			}
			want[i].post = last
			is(t, b, want)
			takes(t, b, i, last)
			puts(t, b, list[i], i)
			puts(t, b, last, n-1)
		}
	}
}

func TestFirstEmpty(t *testing.T) { // P13.1: whichever are full, the first empty one has it
	for set := range 1 << api.MaxBoxes {
		b := made(t, api.MaxBoxes)
		want := make([]slot, api.MaxBoxes)
		for i := range want {
			want[i] = slot{true, told(i, short(uint32(7*i%5)), byte(i))}
			puts(t, b, want[i].post, i)
		}
		first := -1
		for i := range slices.Backward(want) {
			if set>>i&1 == 0 {
				takes(t, b, i, want[i].post)
				want[i], first = slot{}, i
			}
		}
		is(t, b, want)
		p := told(1000, short(2))
		if first == -1 {
			refuses(t, b, p, api.ErrFull)
		} else {
			puts(t, b, p, first)
			want[first] = slot{true, p}
		}
		is(t, b, want)
	}
}

func TestBest(t *testing.T) { // P13.2
	const base = 0x123
	for _, x := range []struct {
		list []api.Post
		want int
	}{
		{nil, -1},
		{[]api.Post{told(1, short(5)), told(2, short(3))}, 1}, // example 1
		{[]api.Post{told(1, short(3)), told(2, short(5))}, 0},
		{[]api.Post{told(2, short(5)), told(1, short(5)), told(0, short(5), 1, 2)}, 0}, // equal keys, whatever else is unlike
		{[]api.Post{told(1, short(7)), told(2, short(5), 9), asked(3, short(5), 0), told(4, short(5))}, 1},
		{[]api.Post{asked(1, short(5), 8), asked(2, short(5), 0)}, 0},
		{[]api.Post{asked(1, short(base), 0), told(2, short(base))}, 1}, // a frame ahead of one that asks for it
		{[]api.Post{told(1, long(base<<18)), asked(2, short(base), 0)}, 1},
		{[]api.Post{asked(1, long(base<<18), 0), told(2, long(base<<18)), told(3, long(base<<18))}, 1},
		{[]api.Post{told(1, long(base<<18|1)), asked(2, long(base<<18), 1)}, 1},
		{[]api.Post{asked(1, long(base<<18), 0), told(2, long(base<<18|1)), asked(3, short(base), 0), told(4, short(base))}, 3},
		{[]api.Post{told(1, short(base+1)), told(2, long(base<<18|1<<18-1))}, 1}, // the base is first
		{[]api.Post{told(1, short(base)), told(2, long(0x48d)), told(3, short(1))}, 1},
		{[]api.Post{told(1, short(0))}, 0},
		{[]api.Post{asked(1, long(1<<29-1), 8)}, 0}, // the greatest key that there is
		{[]api.Post{asked(1, long(1<<29-1), 8), asked(2, long(1<<29-1), 0)}, 0},
		{[]api.Post{asked(1, long(1<<29-1), 8), told(2, long(1<<29-1))}, 1},
		{[]api.Post{told(1, short(0)), told(2, long(0)), told(3, short(0))}, 0}, // the least one
	} {
		for n := max(len(x.list), 1); n <= api.MaxBoxes; n++ {
			if b := made(t, n, x.list...); b.Best() != x.want {
				t.Errorf("%v: Best() = %d; want %d", x.list, b.Best(), x.want)
			}
		}
	}
}

func TestBestOfFullOnes(t *testing.T) { // P13.2: an empty one is never best, whatever it had
	b := made(t, 3, told(1, short(0)), told(2, short(9)), told(3, short(4)))
	takes(t, b, 0, told(1, short(0)))
	if b.Best() != 2 {
		t.Errorf("Best() = %d; want 2", b.Best())
	}
	takes(t, b, 2, told(3, short(4)))
	if b.Best() != 1 {
		t.Errorf("Best() = %d; want 1", b.Best())
	}
	takes(t, b, 1, told(2, short(9)))
	if b.Best() != -1 {
		t.Errorf("Best() = %d of none", b.Best())
	}
}

func TestInOrder(t *testing.T) { // P13.3
	chance := rand.New(rand.NewSource(30))
	for range 2000 {
		n := 1 + chance.Intn(api.MaxBoxes)
		b := made(t, n)
		var list []api.Post
		for i := range n {
			p := anyPost(chance, i)
			puts(t, b, p, i)
			list = append(list, p)
		}
		slices.SortStableFunc(list, func(p, q api.Post) int { // the tags are the numbers: alike ones come by these
			switch {
			case ident.Wins(p.Frame.Id, p.Frame.Remote, q.Frame.Id, q.Frame.Remote):
				return -1
			case ident.Wins(q.Frame.Id, q.Frame.Remote, p.Frame.Id, p.Frame.Remote):
				return 1
			}
			return 0
		})
		for _, p := range list {
			takes(t, b, b.Best(), p)
		}
		has(t, b, n)
	}
}

func TestAnyCalls(t *testing.T) { // P13.1, P13.2, P13.4
	chance := rand.New(rand.NewSource(31))
	for range 300 {
		n := 1 + chance.Intn(api.MaxBoxes)
		b, want := made(t, n), make([]slot, n)
		for range 100 {
			switch i := chance.Intn(n+2) - 1; chance.Intn(5) {
			case 0, 1, 2:
				stirPut(t, b, want, anyPost(chance, chance.Intn(12)))
			case 3:
				stirTake(t, b, want, i)
			case 4:
				stirTake(t, b, want, b.Best())
			}
			is(t, b, want)
		}
	}
}

// stirPut lays a post in, of both.
func stirPut(t *testing.T, b *Boxes, want []slot, p api.Post) {
	t.Helper()
	if slices.ContainsFunc(want, func(x slot) bool { return x.full && x.post.Tag == p.Tag }) {
		refuses(t, b, p, api.ErrTwice)
		return
	}
	i := slices.Index(want, slot{})
	if i == -1 {
		refuses(t, b, p, api.ErrFull)
		return
	}
	puts(t, b, p, i)
	want[i] = slot{true, p}
}

// stirTake takes one out, of both.
func stirTake(t *testing.T, b *Boxes, want []slot, i int) {
	t.Helper()
	if i >= 0 && i < len(want) && want[i].full {
		takes(t, b, i, want[i].post)
		want[i] = slot{}
		return
	}
	errno := api.ErrRange
	if i >= 0 && i < len(want) {
		errno = api.ErrNone
	}
	if p, got := b.Take(i); p != (api.Post{}) || got != errno {
		t.Errorf("Take(%d) = %v, %d; want %d", i, p, got, errno)
	}
}

func TestApart(t *testing.T) { // P3, P5: each has its own
	one, two := made(t, 2, told(1, short(5), 1)), made(t, 2)
	has(t, two, 2)
	puts(t, two, told(1, short(3)), 0)
	has(t, one, 2, told(1, short(5), 1))
	p, _ := one.Get(0)
	p.Tag, p.Frame.Data[0] = 9, 9
	has(t, one, 2, told(1, short(5), 1))
	takes(t, one, 0, told(1, short(5), 1))
	has(t, two, 2, told(1, short(3)))
}
