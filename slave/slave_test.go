package slave_test

import (
	"math"
	"math/rand"
	"testing"

	"bellbuoy/api"
	"bellbuoy/frame"
	"bellbuoy/ident"
	"bellbuoy/slave"
)

const lastTime = 1<<48 - 1

// turn is a word that is no Follow, follow one that is.
func turn(rank, round int) slave.Word { return slave.Word{Rank: rank, Round: round} }

func follow(rank, round int, time int64) slave.Word {
	return slave.Word{Follow: true, Rank: rank, Round: round, Time: time}
}

// ranks, rounds and times are the edges of those that can be, and others within.
var (
	ranks  = []int{0, 1, 7, 15, 16, 30, api.MaxNodes - 1}
	rounds = []int{0, 1, 2, 255, 256, 258, 32767, 32768, 65534, 65535}
	times  = []int64{0, 1, 9, 255, 256, 1<<32 - 1, 1 << 32, 0x010203040506, 1 << 47, lastTime - 1, lastTime}
)

// rights is words that can be.
func rights() []slave.Word {
	var list []slave.Word
	for _, rank := range ranks {
		for _, round := range rounds {
			list = append(list, turn(rank, round))
			for _, time := range times {
				list = append(list, follow(rank, round, time))
			}
		}
	}
	return list
}

// wrongs is words that can't be: each part out of its bounds, alone and with others.
func wrongs() []slave.Word {
	var list []slave.Word
	for _, rank := range []int{-1, -32, api.MaxNodes, api.MaxNodes + 1, 63, 64, 255, 256, 1 << 32, 1<<32 + 3, math.MaxInt, math.MinInt} {
		list = append(list, turn(rank, 0), turn(rank, 258), follow(rank, 0, 0), follow(rank, 258, 9), follow(rank, -1, -1))
	}
	for _, round := range []int{-1, -65536, 65536, 65537, 1 << 31, 1 << 32, 1<<32 + 3, math.MaxInt, math.MinInt} {
		list = append(list, turn(0, round), turn(3, round), follow(0, round, 0), follow(3, round, 9))
	}
	for _, time := range []int64{-1, -9, -lastTime, lastTime + 1, lastTime + 2, 1 << 62, math.MaxInt64, math.MinInt64} {
		list = append(list, follow(0, 0, time), follow(3, 258, time))
	}
	for _, time := range []int64{1, 9, -1, 1 << 32, lastTime, lastTime + 1, math.MaxInt64, math.MinInt64} { // of one that tells none
		list = append(list, slave.Word{Time: time}, slave.Word{Rank: 3, Round: 258, Time: time})
	}
	return list
}

func TestRight(t *testing.T) { // P20.1
	for _, w := range rights() {
		if !slave.Right(w) {
			t.Errorf("%v can't be", w)
		}
	}
	for _, w := range wrongs() {
		if slave.Right(w) {
			t.Errorf("%v can be", w)
		}
	}
}

func TestFrame(t *testing.T) { // P20.1, written out
	for _, c := range []struct {
		word slave.Word
		want string
	}{
		{turn(0, 0), "000#0000"},
		{turn(3, 258), "003#0102"},
		{turn(31, 65535), "01f#ffff"},
		{turn(16, 255), "010#00ff"},
		{follow(0, 0, 0), "020#0000000000000000"},
		{follow(3, 258, 9), "023#0102000000000009"},
		{follow(31, 65535, lastTime), "03f#ffffffffffffffff"},
		{follow(1, 0x1234, 0x56789abcdef0), "021#123456789abcdef0"},
		{follow(30, 1, 1<<47), "03e#0001800000000000"},
	} {
		f, errno := slave.Frame(c.word)
		if frame.Text(f) != c.want || errno != api.OK {
			t.Errorf("Frame(%v) = %v, %d; want %s", c.word, f, errno, c.want)
		}
		read, _ := frame.Read(c.want)
		if w, ok := slave.Of(read); w != c.word || !ok {
			t.Errorf("Of(%s) = %v, %v; want %v", c.want, w, ok, c.word)
		}
	}
	for _, w := range wrongs() {
		if f, errno := slave.Frame(w); f != (api.Frame{}) || errno != api.ErrRange {
			t.Errorf("Frame(%v) = %v, %d", w, f, errno)
		}
	}
}

// its is a word's frame, as chapter 20 says it, number by number.
func its(w slave.Word) api.Frame {
	f := api.Frame{Id: api.Ident{N: uint32(w.Rank)}, Len: 2}
	f.Data[0], f.Data[1] = byte(w.Round/256), byte(w.Round%256)
	if w.Follow {
		f.Id.N, f.Len = uint32(w.Rank+32), 8
		time := w.Time
		for at := 7; at >= 2; at-- {
			f.Data[at] = byte(time % 256)
			time /= 256
		}
	}
	return f
}

func TestThereAndBack(t *testing.T) { // P20.1, P20.3
	chance := rand.New(rand.NewSource(55))
	words := rights()
	for range 20000 {
		words = append(words, anyWord(chance))
	}
	for rank := range api.MaxNodes {
		for round := range 65536 {
			if rank%31 == 0 || round%997 == 0 {
				words = append(words, turn(rank, round), follow(rank, round, chance.Int63n(lastTime+1)))
			}
		}
	}
	for _, w := range words {
		f, errno := slave.Frame(w)
		if f != its(w) || errno != api.OK || frame.Right(f) != api.OK {
			t.Fatalf("Frame(%v) = %v, %d", w, f, errno)
		}
		if back, ok := slave.Of(f); back != w || !ok {
			t.Fatalf("Of(Frame(%v)) = %v, %v", w, back, ok)
		}
	}
}

// anyWord is one that can be.
func anyWord(chance *rand.Rand) slave.Word {
	w := turn(chance.Intn(api.MaxNodes), chance.Intn(65536))
	if chance.Intn(2) == 0 {
		w.Follow, w.Time = true, chance.Int63n(lastTime+1)>>chance.Intn(48)
	}
	return w
}

// none fails unless a frame is no word's.
func none(t *testing.T, f api.Frame) {
	t.Helper()
	if w, ok := slave.Of(f); w != (slave.Word{}) || ok {
		t.Errorf("Of(%v) = %v, %v", f, w, ok)
	}
}

func TestOfFramesOfOtherSorts(t *testing.T) { // P20.1: what is Ext, or Remote, of another length, or another number
	for _, w := range rights() {
		f := its(w)
		for _, change := range []func(*api.Frame){
			func(g *api.Frame) { g.Id.Ext = true },
			func(g *api.Frame) { g.Remote = true },
			func(g *api.Frame) { g.Remote, g.Data = true, [8]byte{} },
			func(g *api.Frame) { g.Remote, g.Len, g.Data = true, 0, [8]byte{} },
			func(g *api.Frame) { g.Id.Ext, g.Id.N = true, g.Id.N<<18 },
			func(g *api.Frame) { g.Id.N += 64 },
			func(g *api.Frame) { g.Id.N += 1 << 11 },
			func(g *api.Frame) { g.Id.N += 1 << 31 },
			func(g *api.Frame) { g.Id.N = -g.Id.N - 1 },
		} {
			g := f
			change(&g)
			none(t, g)
		}
		for _, length := range []int{math.MinInt, -1, 0, 1, 2, 3, 4, 5, 6, 7, 8, 9, 15, 1 << 32, 1<<32 + 2, 1<<32 + 8, math.MaxInt} {
			if length != f.Len {
				g := f
				g.Len = length
				none(t, g)
			}
		}
	}
}

func TestOfBytesBehind(t *testing.T) { // P20.1: a frame has none behind its Len that are not 0
	for at := 2; at < 8; at++ {
		for _, v := range []byte{1, 9, 128, 255} {
			f := its(turn(3, 258))
			f.Data[at] = v
			none(t, f)
		}
	}
}

func TestOfAllNumbers(t *testing.T) { // P20.1: which numbers are words', of which lengths
	for n := range uint32(1 << 12) {
		for length := range 10 {
			f := api.Frame{Id: api.Ident{N: n}, Len: length}
			w, ok := slave.Of(f)
			want := slave.Word{}
			is := n < 32 && length == 2 || n >= 32 && n < 64 && length == 8
			if is {
				want = slave.Word{Follow: n >= 32, Rank: int(n % 32)}
			}
			if w != want || ok != is {
				t.Errorf("Of(%v) = %v, %v", f, w, ok)
			}
		}
	}
	for _, n := range []uint32{1 << 16, 1 << 29, 1 << 31, 1<<31 + 3, 1<<31 + 35, math.MaxUint32, math.MaxUint32 - 31, 1<<32 - 32} {
		for _, length := range []int{2, 8} {
			none(t, api.Frame{Id: api.Ident{N: n}, Len: length})
			none(t, api.Frame{Id: api.Ident{N: n, Ext: true}, Len: length})
		}
	}
}

func TestOfAnyFrame(t *testing.T) { // P20.1, P20.3: what is taken has just that frame, and can be
	chance := rand.New(rand.NewSource(56))
	taken := 0
	for range 50000 {
		f := api.Frame{Id: api.Ident{N: uint32(chance.Intn(70))}, Len: []int{2, 2, 8, 8, chance.Intn(9)}[chance.Intn(5)]}
		f.Id.Ext, f.Remote = chance.Intn(9) == 0, chance.Intn(9) == 0
		for at := range min(f.Len, 7+chance.Intn(2)) + chance.Intn(9)/8*max(0, 8-f.Len) { // now and then behind its Len, too
			f.Data[at] = byte(chance.Intn(256))
		}
		w, ok := slave.Of(f)
		if !ok {
			none(t, f)
			continue
		}
		taken++
		back, errno := slave.Frame(w)
		if back != f || errno != api.OK || !slave.Right(w) || f != its(w) {
			t.Fatalf("Of(%v) = %v, whose frame is %v, %d", f, w, back, errno)
		}
	}
	if taken < 10000 {
		t.Errorf("just %d were words'", taken)
	}
}

func TestTurnsWin(t *testing.T) { // P20.1: on the wire each turn goes ahead of each Follow, and the better rank ahead
	for rank := range api.MaxNodes {
		f, _ := slave.Frame(turn(rank, 65535))
		g, _ := slave.Frame(follow(0, 0, 0))
		if !ident.Wins(f.Id, f.Remote, g.Id, g.Remote) {
			t.Errorf("%v does not win against %v", f, g)
		}
		if h, errno := slave.Frame(turn(rank+1, 0)); errno == api.OK && !ident.Wins(f.Id, f.Remote, h.Id, h.Remote) {
			t.Errorf("%v does not win against %v", f, h)
		}
	}
}
