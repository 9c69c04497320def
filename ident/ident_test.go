package ident

import (
	"bytes"
	"fmt"
	"math"
	"math/rand"
	"slices"
	"strconv"
	"strings"
	"testing"

	"bellbuoy/api"
)

const (
	lastShort = 1<<11 - 1
	lastLong  = 1<<29 - 1
)

func short(n uint32) api.Ident { return api.Ident{N: n} }
func long(n uint32) api.Ident  { return api.Ident{Ext: true, N: n} }

// numbers are those of 32 bits around each power of 2, and the last ones.
func numbers() []uint32 {
	list := []uint32{0x123, 0x124, 0x48c0000, 0x12345678, 0x1abcdef0, math.MaxUint32 - 1, math.MaxUint32}
	for bit := range 32 {
		list = append(list, 1<<bit-1, 1<<bit, 1<<bit+1)
	}
	slices.Sort(list)
	return slices.Compact(list)
}

// wrong are identifiers that can't be.
func wrong() []api.Ident {
	list := []api.Ident{short(lastShort + 1), short(lastLong), short(math.MaxUint32), long(lastLong + 1), long(math.MaxUint32)}
	for _, n := range numbers() {
		if n > lastShort {
			list = append(list, short(n))
		}
		if n > lastLong {
			list = append(list, long(n))
		}
	}
	return list
}

// right are identifiers that can be: all of 11 bits, and many of 29.
func right() []api.Ident {
	chance := rand.New(rand.NewSource(5))
	var list []api.Ident
	for n := range uint32(lastShort + 1) {
		list = append(list, short(n), long(n<<18), long(n<<18|1<<18-1), long(n<<18|chance.Uint32()%(1<<18)))
	}
	for _, n := range numbers() {
		if n <= lastLong {
			list = append(list, long(n))
		}
	}
	return list
}

// some are few of these, so that each can be held against each, and these by three.
func some() []api.Ident {
	chance := rand.New(rand.NewSource(6))
	all := right()
	list := []api.Ident{short(0), short(1), short(0x123), short(0x124), short(lastShort), long(0), long(1), long(0x123 << 18), long(0x123<<18 + 1), long(0x124 << 18), long(0x124<<18 - 1), long(lastLong - 1), long(lastLong)}
	for len(list) < 40 {
		list = append(list, all[chance.Intn(len(all))])
	}
	return list
}

// written is the bits of an identifier that can be, as one writes them.
func written(id api.Ident, remote bool) string {
	asks := "0"
	if remote {
		asks = "1"
	}
	if !id.Ext {
		return fmt.Sprintf("%011b", id.N) + asks + "0"
	}
	all := fmt.Sprintf("%029b", id.N)
	return all[:11] + "11" + all[11:] + asks
}

// text is a string of bits as one writes it.
func text(b []byte) string {
	var s []byte
	for _, v := range b {
		s = append(s, "01?"[min(v, 2)])
	}
	return string(s)
}

func TestRight(t *testing.T) { // P5.1
	for _, c := range []struct {
		id   api.Ident
		want bool
	}{
		{api.Ident{}, true},
		{short(0x123), true},
		{short(lastShort), true},
		{short(lastShort + 1), false},
		{short(1 << 18), false},
		{short(lastLong), false},
		{short(math.MaxUint32), false},
		{long(0), true},
		{long(lastShort), true},
		{long(lastShort + 1), true},
		{long(lastLong), true},
		{long(lastLong + 1), false},
		{long(1 << 30), false},
		{long(1 << 31), false},
		{long(math.MaxUint32), false},
	} {
		if got := Right(c.id); got != c.want {
			t.Errorf("Right(%v) = %v; want %v", c.id, got, c.want)
		}
	}
	for _, id := range right() {
		if !Right(id) {
			t.Errorf("Right(%v) = false", id)
		}
	}
	for _, id := range wrong() {
		if Right(id) {
			t.Errorf("Right(%v) = true", id)
		}
	}
}

func TestBits(t *testing.T) { // P5.1
	for _, c := range []struct {
		id     api.Ident
		remote bool
		want   string
	}{
		{short(0), false, "00000000000" + "00"},
		{short(0), true, "00000000000" + "10"},
		{short(0x123), false, "00100100011" + "00"},
		{short(0x123), true, "00100100011" + "10"},
		{short(lastShort), false, "11111111111" + "00"},
		{short(lastShort), true, "11111111111" + "10"},
		{long(0), false, "00000000000" + "11" + "000000000000000000" + "0"},
		{long(0), true, "00000000000" + "11" + "000000000000000000" + "1"},
		{long(0x123 << 18), false, "00100100011" + "11" + "000000000000000000" + "0"},
		{long(0x123<<18 | 0x20001), true, "00100100011" + "11" + "100000000000000001" + "1"},
		{long(0x3ffff), false, "00000000000" + "11" + "111111111111111111" + "0"},
		{long(lastLong), false, "11111111111" + "11" + "111111111111111111" + "0"},
		{long(lastLong), true, "11111111111" + "11" + "111111111111111111" + "1"},
	} {
		if got := text(Bits(c.id, c.remote)); got != c.want {
			t.Errorf("Bits(%v, %v) = %s; want %s", c.id, c.remote, got, c.want)
		}
	}
	for _, id := range right() {
		for _, remote := range []bool{false, true} {
			if got, want := text(Bits(id, remote)), written(id, remote); got != want {
				t.Fatalf("Bits(%v, %v) = %s; want %s", id, remote, got, want)
			}
		}
	}
}

func TestKey(t *testing.T) { // P5.2
	for _, c := range []struct {
		id     api.Ident
		remote bool
		want   uint32
	}{
		{short(0), false, 0},
		{short(0), true, 0x00100000},
		{short(1), false, 0x00200000},
		{short(0x123), false, 0x24600000},
		{short(0x123), true, 0x24700000},
		{short(lastShort), false, 0xffe00000},
		{short(lastShort), true, 0xfff00000},
		{long(0), false, 0x00180000},
		{long(0), true, 0x00180001},
		{long(1), false, 0x00180002},
		{long(0x123 << 18), false, 0x24780000},
		{long(lastLong), false, 0xfffffffe},
		{long(lastLong), true, 0xffffffff},
	} {
		if got := Key(c.id, c.remote); got != c.want {
			t.Errorf("Key(%v, %v) = %#x; want %#x", c.id, c.remote, got, c.want)
		}
	}
	for _, id := range right() {
		for _, remote := range []bool{false, true} {
			bits := written(id, remote)
			want, _ := strconv.ParseUint(bits+strings.Repeat("0", 32-len(bits)), 2, 32)
			if got := Key(id, remote); got != uint32(want) {
				t.Fatalf("Key(%v, %v) = %#x; want %#x", id, remote, got, want)
			}
		}
	}
}

func TestWhatCanNotBe(t *testing.T) { // P5.1, P5.2, P5.3
	for _, id := range wrong() {
		for _, remote := range []bool{false, true} {
			if got := Bits(id, remote); len(got) != 0 {
				t.Errorf("Bits(%v, %v) = %v", id, remote, got)
			}
			if got := Key(id, remote); got != 0 {
				t.Errorf("Key(%v, %v) = %#x", id, remote, got)
			}
			for _, other := range []api.Ident{short(0), short(lastShort), long(0), long(lastLong), id} {
				if Wins(id, remote, other, true) || Wins(other, remote, id, true) {
					t.Errorf("%v wins over %v, or is won over", id, other)
				}
			}
		}
		if got := Text(id); got != "" {
			t.Errorf("Text(%v) = %q", id, got)
		}
	}
}

// owner is whose key it is, by its bits as one writes them.
func owner(key uint32) (id api.Ident, remote, ok bool) {
	bits := fmt.Sprintf("%032b", key)
	number := func(s string) uint32 {
		n, _ := strconv.ParseUint(s, 2, 32)
		return uint32(n)
	}
	switch {
	case bits[12] == '0' && number(bits[13:]) == 0:
		return short(number(bits[:11])), bits[11] == '1', true
	case bits[11:13] == "11":
		return long(number(bits[:11] + bits[13:31])), bits[31] == '1', true
	}
	return api.Ident{}, false, false
}

func TestOf(t *testing.T) { // P5.2
	for _, c := range []struct {
		key    uint32
		id     api.Ident
		remote bool
		ok     bool
	}{
		{0, short(0), false, true}, // also that of all that can't be
		{0x00100000, short(0), true, true},
		{0x24600000, short(0x123), false, true},
		{0x24700000, short(0x123), true, true},
		{0xfff00000, short(lastShort), true, true},
		{0x00180000, long(0), false, true},
		{0x24780000, long(0x123 << 18), false, true},
		{0xffffffff, long(lastLong), true, true},
		{0x00000001, api.Ident{}, false, false},
		{0x24600001, api.Ident{}, false, false},
		{0x24740000, api.Ident{}, false, false},
		{0x24680000, api.Ident{}, false, false}, // it says Ext, with a 0 ahead of that
		{0x2468ffff, api.Ident{}, false, false},
		{0xffefffff, api.Ident{}, false, false},
		{0xfff7ffff, api.Ident{}, false, false},
	} {
		if id, remote, ok := Of(c.key); id != c.id || remote != c.remote || ok != c.ok {
			t.Errorf("Of(%#x) = %v, %v, %v; want %v, %v, %v", c.key, id, remote, ok, c.id, c.remote, c.ok)
		}
	}
}

func TestOfManyKeys(t *testing.T) { // P5.2: all beginnings, with ends that somebody's key has, and others
	ends := []uint32{0, 1, 2, 3, 1 << 17, 1 << 18, 1<<18 - 1, 1<<19 - 2, 1<<19 - 1, 0x2aaaa, 0x55555}
	for bit := range 19 {
		ends = append(ends, 1<<bit)
	}
	nobody := 0
	for head := range uint32(1 << 13) {
		for _, end := range ends {
			key := head<<19 | end
			id, remote, ok := Of(key)
			want, asks, is := owner(key)
			if id != want || remote != asks || ok != is {
				t.Fatalf("Of(%#x) = %v, %v, %v; want %v, %v, %v", key, id, remote, ok, want, asks, is)
			}
			if ok && Key(id, remote) != key {
				t.Fatalf("Key of Of(%#x) is %#x", key, Key(id, remote))
			}
			if !ok {
				nobody++
			}
		}
	}
	if nobody == 0 {
		t.Error("each key is somebody's")
	}
}

func TestWins(t *testing.T) { // P5.2, and the chapter's example
	for _, c := range []struct {
		a      api.Ident
		remote bool
		b      api.Ident
		other  bool
		want   bool
	}{
		{short(0x123), false, short(0x124), false, true},
		{short(0x124), false, short(0x123), false, false},
		{short(0x123), true, short(0x124), false, true},
		{short(0x123), false, short(0x123), true, true},
		{short(0x123), true, short(0x123), false, false},
		{short(0x123), false, short(0x123), false, false},
		{short(0x123), true, short(0x123), true, false},
		{short(0), false, short(lastShort), false, true},
		{short(0), false, short(0), true, true},
		{short(0x123), true, long(0x123 << 18), false, true},
		{long(0x123 << 18), false, short(0x123), true, false},
		{long(0x123<<18 - 1), true, short(0x123), false, true},
		{short(0x124), false, long(0x123<<18 | 5), false, false},
		{long(5), false, long(6), false, true},
		{long(5), true, long(6), false, true},
		{long(6), false, long(5), true, false},
		{long(5), false, long(5), true, true},
		{long(5), true, long(5), false, false},
		{long(5), false, long(5), false, false},
		{long(lastLong - 1), true, long(lastLong), false, true},
		{long(lastLong), false, long(lastLong), true, true},
		{short(lastShort), true, long(lastLong), false, true},
		{short(0), false, long(lastLong + 1), false, false},
		{short(0), false, short(lastShort + 1), false, false},
		{short(lastShort + 1), false, long(lastLong), true, false},
		{long(lastLong + 1), false, long(lastLong), true, false},
	} {
		if got := Wins(c.a, c.remote, c.b, c.other); got != c.want {
			t.Errorf("Wins(%v, %v, %v, %v) = %v; want %v", c.a, c.remote, c.b, c.other, got, c.want)
		}
	}
}

func TestOneOverEachExtOfItsBase(t *testing.T) { // P5.2, and the chapter's example
	for rest := range uint32(1 << 18) {
		id := long(0x123<<18 | rest)
		asks := rest%2 == 0
		if !Wins(short(0x123), !asks, id, asks) || Wins(id, asks, short(0x123), !asks) {
			t.Fatalf("123 does not win over %v", id)
		}
	}
	for base := range uint32(lastShort + 1) {
		for _, rest := range []uint32{0, 1, 1 << 17, 1<<18 - 1} {
			if id := long(base<<18 | rest); !Wins(short(base), true, id, false) || Wins(id, false, short(base), true) {
				t.Fatalf("%v does not win over %v", short(base), id)
			}
		}
	}
}

// asking is an identifier, and whether it asks for the frame.
type asking struct {
	id     api.Ident
	remote bool
}

func both(list []api.Ident) []asking {
	var all []asking
	for _, id := range list {
		all = append(all, asking{id, false}, asking{id, true})
	}
	return all
}

func wins(a, b asking) bool { return Wins(a.id, a.remote, b.id, b.remote) }

func TestOneWins(t *testing.T) { // P5.4
	list := both(some())
	for _, a := range list {
		for _, b := range list {
			if a == b {
				if wins(a, b) {
					t.Errorf("%v wins over itself", a)
				}
			} else if wins(a, b) == wins(b, a) {
				t.Errorf("%v and %v: both win, or none", a, b)
			}
		}
	}
}

func TestWhoWinsOverWhoWins(t *testing.T) { // P5.4
	list := both(some())
	for _, a := range list {
		for _, b := range list {
			if !wins(a, b) {
				continue
			}
			for _, c := range list {
				if wins(b, c) && !wins(a, c) {
					t.Fatalf("%v wins over %v, that over %v, but not %v over %v", a, b, c, a, c)
				}
			}
		}
	}
}

func TestBitByBit(t *testing.T) { // P5.5
	list := both(some())
	for _, a := range list {
		for _, b := range list {
			if !wins(a, b) {
				continue
			}
			winner, loser := Bits(a.id, a.remote), Bits(b.id, b.remote)
			at := 0
			for at < min(len(winner), len(loser)) && winner[at] == loser[at] {
				at++
			}
			if at == min(len(winner), len(loser)) || winner[at] != 0 || loser[at] != 1 {
				t.Errorf("%v wins over %v, with %s over %s", a, b, text(winner), text(loser))
			}
		}
	}
}

func TestThereAndBack(t *testing.T) { // P5.6
	for _, id := range right() {
		for _, remote := range []bool{false, true} {
			if got, asks, ok := Of(Key(id, remote)); got != id || asks != remote || !ok {
				t.Fatalf("Of(Key(%v, %v)) = %v, %v, %v", id, remote, got, asks, ok)
			}
		}
		if got, ok := Parse(Text(id)); got != id || !ok {
			t.Fatalf("Parse(Text(%v)) = %v, %v", id, got, ok)
		}
	}
}

func TestText(t *testing.T) { // P5.3
	for _, c := range []struct {
		id   api.Ident
		want string
	}{
		{short(0), "000"},
		{short(0xa), "00a"},
		{short(0x123), "123"},
		{short(0x7fe), "7fe"},
		{short(lastShort), "7ff"},
		{long(0), "00000000"},
		{long(0x123), "00000123"},
		{long(0x123 << 18), "048c0000"},
		{long(0x9abcdef), "09abcdef"},
		{long(lastLong), "1fffffff"},
	} {
		if got := Text(c.id); got != c.want {
			t.Errorf("Text(%v) = %q; want %q", c.id, got, c.want)
		}
	}
	for _, id := range right() {
		want := fmt.Sprintf("%03x", id.N)
		if id.Ext {
			want = fmt.Sprintf("%08x", id.N)
		}
		if got := Text(id); got != want {
			t.Fatalf("Text(%v) = %q; want %q", id, got, want)
		}
	}
}

func TestParse(t *testing.T) { // P5.3
	for _, c := range []struct {
		s  string
		id api.Ident
		ok bool
	}{
		{"000", short(0), true},
		{"123", short(0x123), true},
		{"7ff", short(lastShort), true},
		{"800", api.Ident{}, false},
		{"fff", api.Ident{}, false},
		{"00000000", long(0), true},
		{"00000123", long(0x123), true},
		{"048c0000", long(0x123 << 18), true},
		{"09abcdef", long(0x9abcdef), true},
		{"1fffffff", long(lastLong), true},
		{"20000000", api.Ident{}, false},
		{"ffffffff", api.Ident{}, false},
		{"", api.Ident{}, false},
		{"1", api.Ident{}, false},
		{"23", api.Ident{}, false},
		{"0123", api.Ident{}, false},
		{"00123", api.Ident{}, false},
		{"000123", api.Ident{}, false},
		{"0000123", api.Ident{}, false},
		{"000000123", api.Ident{}, false},
		{"100000123", api.Ident{}, false}, // of the eight last digits alone it would be one
		{strings.Repeat("0", 1000) + "123", api.Ident{}, false},
		{"12A", api.Ident{}, false},
		{"7FF", api.Ident{}, false},
		{"048C0000", api.Ident{}, false},
		{"12g", api.Ident{}, false},
		{"12/", api.Ident{}, false},
		{"12:", api.Ident{}, false},
		{"12`", api.Ident{}, false},
		{" 12", api.Ident{}, false},
		{"12 ", api.Ident{}, false},
		{"123 ", api.Ident{}, false},
		{"+12", api.Ident{}, false},
		{"-12", api.Ident{}, false},
		{"1_2", api.Ident{}, false},
		{"0x1", api.Ident{}, false},
		{"0x012345", api.Ident{}, false},
		{"+0000123", api.Ident{}, false},
		{"1\x002", api.Ident{}, false},
		{"\xff\xfe\xfd", api.Ident{}, false},
		{"\u0661", api.Ident{}, false},
		{"12\u0663", api.Ident{}, false},
		{"\uff13", api.Ident{}, false}, // a digit of three bytes
		{"000000\xc3\xa9", api.Ident{}, false},
	} {
		if id, ok := Parse(c.s); id != c.id || ok != c.ok {
			t.Errorf("Parse(%q) = %v, %v; want %v, %v", c.s, id, ok, c.id, c.ok)
		}
	}
}

func TestParseEachSignAtEachPlace(t *testing.T) { // P5.3
	for _, whole := range []string{"000", "123", "7ff", "00000000", "048c0000", "1fffffff"} {
		for at := range whole {
			for sign := range 256 {
				b := []byte(whole)
				b[at] = byte(sign)
				n, err := strconv.ParseUint(string(b), 16, 32)
				want := api.Ident{Ext: len(whole) == 8, N: uint32(n)}
				is := err == nil && bytes.Equal(b, bytes.ToLower(b)) && (n <= lastShort || want.Ext && n <= lastLong)
				if !is {
					want = api.Ident{}
				}
				if id, ok := Parse(string(b)); id != want || ok != is {
					t.Errorf("Parse(%q) = %v, %v; want %v, %v", b, id, ok, want, is)
				}
			}
		}
	}
}

func TestTextOfParse(t *testing.T) { // P5.3: it is the identifier of just that text
	chance := rand.New(rand.NewSource(7))
	const signs = "0123456789abcdefABCDEFg?# -+_x"
	found := 0
	for range 200000 {
		b := make([]byte, []int{2, 3, 3, 3, 4, 7, 8, 8, 9}[chance.Intn(9)])
		for at := range b {
			b[at] = signs[chance.Intn(16+chance.Intn(2)*(len(signs)-16))]
		}
		id, ok := Parse(string(b))
		if ok && (Text(id) != string(b) || !Right(id)) || !ok && id != (api.Ident{}) {
			t.Fatalf("Parse(%q) = %v, %v", b, id, ok)
		}
		if ok {
			found++
		}
	}
	if found == 0 {
		t.Error("none of the texts was one")
	}
}

func TestAnswersAreNew(t *testing.T) { // P3 and P5 of the whole
	for _, id := range []api.Ident{short(0x123), long(0x123 << 18)} {
		first := Bits(id, true)
		want := slices.Clone(first)
		for at := range first[:cap(first)] {
			first[:cap(first)][at] = 9
		}
		if got := Bits(id, true); !bytes.Equal(got, want) {
			t.Errorf("Bits(%v, true) = %v, behind a write to what was answered ahead; want %v", id, got, want)
		}
	}
}
