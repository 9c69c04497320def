package strand

import (
	"bytes"
	"math"
	"math/rand"
	"slices"
	"testing"
)

// text is a string of bits as one writes it.
func text(b []byte) string {
	var s []byte
	for _, v := range b {
		s = append(s, "01?"[min(v, 2)])
	}
	return string(s)
}

func bitsOf(s string) []byte {
	b := make([]byte, len(s))
	for i := range s {
		b[i] = s[i] - '0'
	}
	return b
}

// raw is the string with bytes beside 0 and 1 for its ones.
func raw(s string) []byte {
	others := []byte{1, 2, 255, 128, 48, 16}
	b := bitsOf(s)
	for i, v := range b {
		if v == 1 {
			b[i] = others[i%len(others)]
		}
	}
	return b
}

// samples are strings of many lengths, with bytes of all kinds.
func samples() [][]byte {
	chance := rand.New(rand.NewSource(2))
	list := [][]byte{nil, {}, {0}, {1}, {2}, {255}}
	for n := 1; n < 140; n++ {
		b := make([]byte, n)
		for i := range b {
			if chance.Intn(2) == 1 {
				b[i] = byte(chance.Intn(256))
			}
		}
		list = append(list, b)
	}
	return list
}

func TestOf(t *testing.T) { // P2.1
	for _, c := range []struct {
		n     uint64
		width int
		want  string
	}{
		{5, 4, "0101"},
		{5, 1, "1"},
		{4, 1, "0"},
		{5, 2, "01"},
		{0xABCD, 8, "11001101"},
		{1, 64, "0000000000000000000000000000000000000000000000000000000000000001"},
		{1 << 63, 64, "1000000000000000000000000000000000000000000000000000000000000000"},
		{1 << 63, 63, "000000000000000000000000000000000000000000000000000000000000000"},
		{math.MaxUint64, 3, "111"},
		{5, 0, ""},
		{5, -1, ""},
		{5, 65, ""},
		{5, math.MaxInt, ""},
		{5, math.MinInt, ""},
	} {
		if got := text(Of(c.n, c.width)); got != c.want {
			t.Errorf("Of(%d, %d) = %s; want %s", c.n, c.width, got, c.want)
		}
	}
}

func TestNumber(t *testing.T) { // P2.1
	long := append(bytes.Repeat([]byte{1}, 70), Of(0x123456789ABCDEF0, 64)...)
	for _, c := range []struct {
		b    []byte
		want uint64
	}{
		{nil, 0},
		{[]byte{}, 0},
		{bitsOf("0101"), 5},
		{raw("0101"), 5},
		{[]byte{2}, 1},
		{[]byte{2, 4, 0, 255}, 13},
		{bytes.Repeat([]byte{1}, 64), math.MaxUint64},
		{bytes.Repeat([]byte{255}, 65), math.MaxUint64},
		{append([]byte{1}, make([]byte, 64)...), 0},
		{append([]byte{0, 1}, make([]byte, 63)...), 1 << 63},
		{long, 0x123456789ABCDEF0},
	} {
		if got := Number(c.b); got != c.want {
			t.Errorf("Number(%v) = %d; want %d", c.b, got, c.want)
		}
	}
}

func TestClean(t *testing.T) { // P2.1
	if got := Clean(nil); len(got) != 0 {
		t.Errorf("Clean(nil) = %v", got)
	}
	all := make([]byte, 256)
	for i := range all {
		all[i] = byte(i)
	}
	want := bytes.Repeat([]byte{1}, 256)
	want[0] = 0
	if got := Clean(all); !bytes.Equal(got, want) {
		t.Errorf("Clean of all bytes = %v", got)
	}
}

func TestFlip(t *testing.T) { // P2.1
	for _, c := range []struct {
		b    []byte
		at   int
		want string
	}{
		{bitsOf("0101"), 0, "1101"},
		{bitsOf("0101"), 1, "0001"},
		{bitsOf("0101"), 3, "0100"},
		{[]byte{0, 7, 255, 2}, 1, "0011"},
		{[]byte{0, 7, 255, 2}, 0, "1111"},
		{[]byte{0, 7, 255, 2}, 4, "0111"},
		{[]byte{0, 7, 255, 2}, -1, "0111"},
		{[]byte{0, 7, 255, 2}, math.MaxInt, "0111"},
		{[]byte{0, 7, 255, 2}, math.MinInt, "0111"},
		{nil, 0, ""},
		{[]byte{}, 0, ""},
		{nil, -1, ""},
	} {
		if got := text(Flip(c.b, c.at)); got != c.want {
			t.Errorf("Flip(%v, %d) = %s; want %s", c.b, c.at, got, c.want)
		}
	}
}

func TestAnd(t *testing.T) { // P2.1
	for _, c := range []struct {
		l    [][]byte
		want string
	}{
		{nil, ""},
		{[][]byte{}, ""},
		{[][]byte{nil}, ""},
		{[][]byte{nil, {1, 1}}, ""},
		{[][]byte{{1, 1}, {}}, ""},
		{[][]byte{{0, 1, 1}}, "011"},
		{[][]byte{{0, 9, 255}}, "011"},
		{[][]byte{{0, 0, 1, 1}, {0, 1, 0, 1}}, "0001"},
		{[][]byte{{1, 2}, {4, 1}}, "11"},
		{[][]byte{{0, 1, 0, 1}, {0, 0, 1, 1, 1}}, "0001"},
		{[][]byte{{1, 1, 1, 1}, {1, 1}, {1, 0, 1}}, "10"},
		{[][]byte{{2, 4, 0}, {1, 1, 1}, {255, 128, 3}}, "110"},
	} {
		if got := text(And(c.l...)); got != c.want {
			t.Errorf("And(%v) = %s; want %s", c.l, got, c.want)
		}
	}
	if got := And(); len(got) != 0 {
		t.Errorf("And() = %v", got)
	}
}

func TestRun(t *testing.T) { // P2.2
	for _, c := range []struct {
		b    []byte
		want int
	}{
		{nil, 0},
		{[]byte{}, 0},
		{[]byte{0}, 1},
		{[]byte{1}, 1},
		{[]byte{255}, 1},
		{bitsOf("110"), 2},
		{bitsOf("011"), 2},
		{bitsOf("001"), 2},
		{bitsOf("100"), 2},
		{bitsOf("0101"), 1},
		{bitsOf("1011110001"), 4},
		{bitsOf("1000001111"), 5},
		{bitsOf("0000000"), 7},
		{[]byte{0, 1, 2, 3, 255, 0, 0}, 4},
		{bytes.Repeat([]byte{3, 7}, 200), 400},
	} {
		if got := Run(c.b); got != c.want {
			t.Errorf("Run(%v) = %d; want %d", c.b, got, c.want)
		}
	}
}

func TestSame(t *testing.T) { // P2.2
	for _, c := range []struct {
		a, b []byte
		want bool
	}{
		{nil, nil, true},
		{nil, []byte{}, true},
		{nil, []byte{0}, false},
		{[]byte{1}, nil, false},
		{[]byte{0, 1}, []byte{0, 1}, true},
		{[]byte{0, 1}, []byte{0, 255}, true},
		{[]byte{2, 0}, []byte{1, 0}, true},
		{[]byte{0, 1}, []byte{1, 1}, false},
		{[]byte{0, 1}, []byte{0, 0}, false},
		{[]byte{0, 1}, []byte{0, 1, 0}, false},
		{[]byte{0, 1, 0}, []byte{0, 1}, false},
	} {
		if got := Same(c.a, c.b); got != c.want {
			t.Errorf("Same(%v, %v) = %v", c.a, c.b, got)
		}
	}
}

func TestPack(t *testing.T) { // P2.2
	for _, c := range []struct {
		b    []byte
		want []byte
	}{
		{nil, nil},
		{[]byte{}, nil},
		{[]byte{1}, []byte{0x80}},
		{[]byte{0}, []byte{0}},
		{bitsOf("0101"), []byte{0x50}},
		{bitsOf("10000001"), []byte{0x81}},
		{bitsOf("100000011"), []byte{0x81, 0x80}},
		{bitsOf("1000000100000010"), []byte{0x81, 2}},
		{raw("1111000110000001"), []byte{0xF1, 0x81}},
		{[]byte{255, 2, 0, 4}, []byte{0xD0}},
	} {
		if got := Pack(c.b); !bytes.Equal(got, c.want) {
			t.Errorf("Pack(%v) = %v; want %v", c.b, got, c.want)
		}
	}
}

func TestUnpack(t *testing.T) { // P2.2
	for _, c := range []struct {
		b    []byte
		n    int
		want string
	}{
		{[]byte{0x50}, 4, "0101"},
		{[]byte{0x81, 0xFF}, 8, "10000001"},
		{[]byte{0x81, 0xFF}, 9, "100000011"},
		{[]byte{0x81, 0x02}, 16, "1000000100000010"},
		{[]byte{0x81, 0x02}, 17, ""},
		{[]byte{0x81, 0x02}, 0, ""},
		{[]byte{0x81, 0x02}, -1, ""},
		{[]byte{0x81, 0x02}, math.MaxInt, ""},
		{[]byte{0x81, 0x02}, math.MinInt, ""},
		{nil, 0, ""},
		{nil, 1, ""},
		{nil, -1, ""},
	} {
		if got := text(Unpack(c.b, c.n)); got != c.want {
			t.Errorf("Unpack(%v, %d) = %s; want %s", c.b, c.n, got, c.want)
		}
	}
}

func TestNumberOfOf(t *testing.T) { // P2.3
	for _, n := range []uint64{0, 1, 5, 0xAAAA, 1<<32 - 1, 1 << 63, 0x123456789ABCDEF0, math.MaxUint64} {
		for width := 1; width <= 64; width++ {
			want := n & (math.MaxUint64 >> (64 - width))
			b := Of(n, width)
			if got := Number(b); got != want || len(b) != width {
				t.Errorf("Number(Of(%d, %d)) = %d, of %d bits; want %d", n, width, got, len(b), want)
			}
		}
	}
}

func TestUnpackOfPack(t *testing.T) { // P2.4
	for _, b := range samples() {
		packed := Pack(b)
		if got := Unpack(packed, len(b)); !bytes.Equal(got, Clean(b)) || !Same(got, b) {
			t.Errorf("Unpack(Pack(%v)) = %v", b, got)
		}
		behind := Unpack(packed, 8*len(packed))[len(b):]
		if len(packed) != (len(b)+7)/8 || slices.Contains(behind, 1) {
			t.Errorf("Pack(%v) = %v", b, packed)
		}
	}
}

func TestTheWire(t *testing.T) { // P2.5
	list := samples()
	for i := 2; i < len(list); i++ {
		a, b, c := list[i-2], list[i-1], list[i]
		want := And(a, b, c)
		for _, l := range [][][]byte{{a, c, b}, {b, a, c}, {b, c, a}, {c, a, b}, {c, b, a}, {And(a, b), c}, {a, And(b, c)}} {
			if got := And(l...); !bytes.Equal(got, want) {
				t.Errorf("And(%v) = %v; in another order %v", l, got, want)
			}
		}
		if got := And(c, c); !bytes.Equal(got, Clean(c)) {
			t.Errorf("And of %v and itself = %v", c, got)
		}
		if got := And(c, bytes.Repeat([]byte{1}, len(c))); !bytes.Equal(got, Clean(c)) {
			t.Errorf("And of %v and ones = %v", c, got)
		}
	}
}

func TestFlipTwice(t *testing.T) { // P2.6
	for _, b := range samples() {
		for at := -2; at < len(b)+2; at++ {
			once := Flip(b, at)
			if got := Flip(once, at); !bytes.Equal(got, Clean(b)) {
				t.Errorf("Flip(Flip(%v, %d), %d) = %v", b, at, at, got)
			}
			if there := at >= 0 && at < len(b); Same(once, b) == there {
				t.Errorf("Flip(%v, %d) = %v", b, at, once)
			}
		}
	}
}

// room is a list with room behind its end, and the whole of that memory.
func room(b []byte) (list, whole []byte) {
	whole = append(slices.Clone(b), 7, 8, 9, 250)
	return whole[:len(b)], whole
}

func TestNothingHandedInIsChangedOrKept(t *testing.T) { // P3 of the whole
	for name, call := range map[string]func(b []byte) []byte{
		"Number": func(b []byte) []byte { Number(b); return nil },
		"Clean":  Clean,
		"Flip":   func(b []byte) []byte { return Flip(b, len(b)-1) },
		"Flip at no place": func(b []byte) []byte {
			return Flip(b, len(b))
		},
		"And of one": func(b []byte) []byte { return And(b) },
		"And": func(b []byte) []byte {
			return And(b, b, append(slices.Clone(b), 0))
		},
		"Run":    func(b []byte) []byte { Run(b); return nil },
		"Same":   func(b []byte) []byte { Same(b, b); return nil },
		"Pack":   Pack,
		"Unpack": func(b []byte) []byte { return Unpack(b, 8*len(b)) },
	} {
		for _, b := range append(samples(), []byte{0, 1, 1, 0}) {
			list, whole := room(b)
			before := slices.Clone(whole)
			answer := call(list)
			for i := range answer[:cap(answer)] {
				answer[:cap(answer)][i] ^= 0xFF // what is answered is the caller's to write to
			}
			if !bytes.Equal(whole, before) {
				t.Fatalf("%s changed or handed out what it was given: %v, now %v", name, before, whole)
			}
		}
	}
}

func TestAndLeavesTheListOfStrings(t *testing.T) { // P3 of the whole
	l := [][]byte{{1, 2, 0}, {3, 4}, {5, 6, 7, 8}}
	And(l...)
	if !bytes.Equal(l[0], []byte{1, 2, 0}) || !bytes.Equal(l[1], []byte{3, 4}) || !bytes.Equal(l[2], []byte{5, 6, 7, 8}) {
		t.Errorf("And changed its strings: %v", l)
	}
}

func TestAnswersAreNew(t *testing.T) { // P3 and P5 of the whole
	first := Of(5, 4)
	first[0] = 9
	if got := text(Of(5, 4)); got != "0101" {
		t.Errorf("Of(5, 4) = %s, behind a write to what it answered", got)
	}
}
