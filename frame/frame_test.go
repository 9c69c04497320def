package frame

import (
	"bytes"
	"fmt"
	"math"
	"math/rand"
	"slices"
	"strconv"
	"strings"
	"testing"

	"bellbuoy/api"
)

func short(n uint32) api.Ident { return api.Ident{N: n} }
func long(n uint32) api.Ident  { return api.Ident{Ext: true, N: n} }

// told is a frame of these bytes, asked one that asks for so many.
func told(id api.Ident, data ...byte) api.Frame {
	f := api.Frame{Id: id, Len: len(data)}
	copy(f.Data[:], data)
	return f
}

func asked(id api.Ident, length int) api.Frame {
	return api.Frame{Id: id, Remote: true, Len: length}
}

// frames are of both sorts, of each Len, that ask and that tell; of noughts, of ones, and of any bytes.
func frames() []api.Frame {
	chance := rand.New(rand.NewSource(9))
	ids := []api.Ident{short(0), short(1), short(0x123), short(0x7fe), short(0x7ff), long(0), long(1), long(0x123 << 18), long(0x48c0001), long(0x3ffff), long(0x1ffffffe), long(0x1fffffff)}
	for range 10 {
		ids = append(ids, short(chance.Uint32()>>21), long(chance.Uint32()>>3))
	}
	var list []api.Frame
	for _, id := range ids {
		for length := range 9 {
			data := make([]byte, length)
			chance.Read(data)
			list = append(list, asked(id, length), told(id, data...), told(id, make([]byte, length)...), told(id, bytes.Repeat([]byte{255}, length)...))
		}
	}
	return list
}

func bitsOf(s string) []byte {
	b := make([]byte, len(s))
	for at := range s {
		b[at] = s[at] - '0'
	}
	return b
}

// text is a string of bits as one writes it.
func text(b []byte) string {
	var s []byte
	for _, v := range b {
		s = append(s, "01?"[min(v, 2)])
	}
	return string(s)
}

// raw is the string with bytes beside 0 and 1 for its ones.
func raw(s string) []byte {
	others := []byte{255, 2, 128, 3, 48, 16}
	b := bitsOf(s)
	for at, v := range b {
		if v == 1 {
			b[at] = others[at%len(others)]
		}
	}
	return b
}

// sealed is a string with its sum behind, as one divides by hand: 15 noughts behind it, and the divisor, of 16 bits, laid below each 1.
func sealed(s string) string {
	divisor := bitsOf("1100010110011001")
	rest := bitsOf(s + strings.Repeat("0", 15))
	for at := range s {
		if rest[at] == 1 {
			for i, v := range divisor {
				rest[at+i] ^= v
			}
		}
	}
	return s + text(rest[len(s):])
}

// head is a body's bits up to those of Len, and these, with any bits where these may be any.
func head(id api.Ident, remote bool, free string, length int) string {
	asks := "0"
	if remote {
		asks = "1"
	}
	if !id.Ext {
		return fmt.Sprintf("0%011b", id.N) + asks + "0" + free[:1] + fmt.Sprintf("%04b", length)
	}
	all := fmt.Sprintf("%029b", id.N)
	return "0" + all[:11] + free[2:3] + "1" + all[11:] + asks + free[:2] + fmt.Sprintf("%04b", length)
}

// usual is free bits of head, as Body has them.
const usual = "001"

// written is the bits of a frame that can be, without their sum.
func written(f api.Frame) string {
	s := head(f.Id, f.Remote, usual, f.Len)
	if !f.Remote {
		for _, v := range f.Data[:f.Len] {
			s += fmt.Sprintf("%08b", v)
		}
	}
	return s
}

// wrong is a frame that can't be, and what is wrong with it.
type wrong struct {
	f    api.Frame
	want api.Errno
}

func wrongs() []wrong {
	full := [8]byte{1, 2, 3, 4, 5, 6, 7, 8}
	list := []wrong{
		{api.Frame{Id: short(0x800)}, api.ErrRange},
		{api.Frame{Id: short(math.MaxUint32), Len: 8, Data: full}, api.ErrRange},
		{api.Frame{Id: long(1 << 29)}, api.ErrRange},
		{api.Frame{Id: long(math.MaxUint32), Remote: true}, api.ErrRange},
		{api.Frame{Id: short(0x800), Len: 9, Data: full}, api.ErrRange},
		{api.Frame{Id: short(0x800), Len: -1, Remote: true, Data: full}, api.ErrRange},
		{api.Frame{Id: long(1 << 29), Data: full}, api.ErrRange},
		{api.Frame{Id: short(1), Len: -1}, api.ErrLen},
		{api.Frame{Id: short(1), Len: 9}, api.ErrLen},
		{api.Frame{Id: short(1), Len: 15, Data: full}, api.ErrLen},
		{api.Frame{Id: short(1), Len: 16}, api.ErrLen},
		{api.Frame{Id: long(1), Len: math.MinInt, Data: full}, api.ErrLen},
		{api.Frame{Id: long(1), Len: math.MaxInt, Data: full}, api.ErrLen},
		{api.Frame{Id: long(1), Len: 9, Remote: true}, api.ErrLen},
		{api.Frame{Id: long(1), Len: -1, Remote: true, Data: full}, api.ErrLen},
	}
	for at := range 8 {
		for _, id := range []api.Ident{short(1), long(1)} {
			var data [8]byte
			data[at] = 1 << at
			for length := range 9 {
				list = append(list, wrong{api.Frame{Id: id, Remote: true, Len: length, Data: data}, api.ErrForm})
				if at >= length {
					list = append(list, wrong{api.Frame{Id: id, Len: length, Data: data}, api.ErrForm})
				}
			}
		}
	}
	return list
}

func TestRight(t *testing.T) { // P6.1
	for _, f := range append(frames(), api.Frame{}) {
		if got := Right(f); got != api.OK {
			t.Errorf("Right(%v) = %d", f, got)
		}
	}
	for _, c := range wrongs() {
		if got := Right(c.f); got != c.want {
			t.Errorf("Right(%v) = %d; want %d", c.f, got, c.want)
		}
	}
}

func TestWhatCanNotBe(t *testing.T) { // P6.1, P6.3
	for _, c := range wrongs() {
		if got := Body(c.f); len(got) != 0 {
			t.Errorf("Body(%v) = %v", c.f, got)
		}
		if got := Text(c.f); got != "" {
			t.Errorf("Text(%v) = %q", c.f, got)
		}
	}
}

func TestBody(t *testing.T) { // P6.1, and the chapter's example
	for _, c := range []struct {
		f    api.Frame
		want string // without the sum
	}{
		{told(short(0x123), 10), "0" + "00100100011" + "0" + "0" + "0" + "0001" + "00001010"},
		{told(short(0)), "0" + "00000000000" + "0" + "0" + "0" + "0000"},
		{asked(short(0x7ff), 8), "0" + "11111111111" + "1" + "0" + "0" + "1000"},
		{asked(short(0x123), 0), "0" + "00100100011" + "1" + "0" + "0" + "0000"},
		{told(long(0x123<<18), 255, 1), "0" + "00100100011" + "1" + "1" + "000000000000000000" + "0" + "00" + "0010" + "11111111" + "00000001"},
		{told(long(0x1fffffff)), "0" + "11111111111" + "1" + "1" + "111111111111111111" + "0" + "00" + "0000"},
		{asked(long(0x20001), 5), "0" + "00000000000" + "1" + "1" + "100000000000000001" + "1" + "00" + "0101"},
	} {
		if got, want := text(Body(c.f)), sealed(c.want); got != want {
			t.Errorf("Body(%v) = %s; want %s", c.f, got, want)
		}
	}
	for _, f := range frames() {
		if got, want := text(Body(f)), sealed(written(f)); got != want {
			t.Fatalf("Body(%v) = %s; want %s", f, got, want)
		}
	}
}

func TestBodyWrittenOut(t *testing.T) { // P6.1: sums that were reckoned elsewhere, too
	for _, c := range []struct {
		f   api.Frame
		sum string
	}{
		{told(short(0)), "000000000000000"},
		{told(short(0x123), 10), "101101011001011"},
		{asked(long(0x123<<18), 8), "101100111110101"},
	} {
		b := text(Body(c.f))
		if got := b[len(b)-15:]; got != c.sum {
			t.Errorf("the sum of %v is %s; want %s", c.f, got, c.sum)
		}
	}
}

func TestSize(t *testing.T) { // P6.1
	for _, c := range []struct {
		s    string
		want int
		ok   bool
	}{
		{"", 0, false},
		{"0", 0, false},
		{"1", 0, false},
		{"0000000000000", 0, false},
		{"00000000000000", 0, false},
		{"00000000000001", 0, false},
		{head(short(1), false, usual, 0)[:18], 0, false},
		{head(short(1), false, usual, 0), 34, true},
		{head(short(1), false, usual, 1), 42, true},
		{head(short(1), false, usual, 7)[:18], 0, false},
		{head(short(1), false, usual, 7), 90, true},
		{head(short(1), false, usual, 8), 98, true},
		{head(short(1), false, usual, 9), 98, true},
		{head(short(1), false, usual, 15), 98, true},
		{head(short(1), false, "101", 3), 58, true},
		{head(short(1), true, usual, 0), 34, true},
		{head(short(1), true, usual, 8), 34, true},
		{head(short(1), true, usual, 15), 34, true},
		{head(long(1), false, usual, 0)[:38], 0, false},
		{head(long(1), false, usual, 0), 54, true},
		{head(long(1), false, usual, 7)[:38], 0, false},
		{head(long(1), false, usual, 7), 110, true},
		{head(long(1), false, usual, 8), 118, true},
		{head(long(1), false, usual, 9), 118, true},
		{head(long(1), false, usual, 15), 118, true},
		{head(long(1), false, "110", 3), 78, true},
		{head(long(1), false, "000", 3), 78, true}, // the 13th bit is not the one that tells
		{head(long(1), true, usual, 0), 54, true},
		{head(long(1), true, "000", 8), 54, true},
		{head(long(1), true, "111", 15), 54, true},
		{"1" + head(short(1), false, usual, 2)[1:], 50, true}, // the first bit tells nothing here
		{strings.Repeat("0", 19), 34, true},
		{strings.Repeat("1", 19), 0, false},
		{strings.Repeat("1", 38), 0, false},
		{strings.Repeat("1", 39), 54, true},
		{strings.Repeat("0", 500), 34, true},
	} {
		for _, b := range [][]byte{bitsOf(c.s), raw(c.s)} {
			if got, ok := Size(b); got != c.want || ok != c.ok {
				t.Errorf("Size(%v) = %d, %v; want %d, %v", b, got, ok, c.want, c.ok)
			}
		}
	}
	if got, ok := Size(nil); got != 0 || ok {
		t.Errorf("Size(nil) = %d, %v", got, ok)
	}
}

func TestSizeOfBeginnings(t *testing.T) { // P6.5
	for _, f := range frames() {
		least := 19
		if f.Id.Ext {
			least = 39
		}
		b := raw(text(Body(f)))
		for n := range len(b) + 1 {
			want := 0
			if n >= least {
				want = len(b)
			}
			if got, ok := Size(b[:n]); got != want || ok != (n >= least) {
				t.Fatalf("Size of the first %d bits of %v is %d, %v; want %d", n, f, got, ok, want)
			}
		}
		if got, ok := Size(append(b, 1, 0, 1)); got != len(b) || !ok {
			t.Fatalf("Size of the bits of %v, and more, is %d, %v; want %d", f, got, ok, len(b))
		}
	}
}

func TestParse(t *testing.T) { // P6.2
	data := "0000101011111111"
	whole := sealed(head(short(0x123), false, usual, 2) + data)
	eight := strings.Repeat("00000001", 8)
	ones := told(short(0x123), 1, 1, 1, 1, 1, 1, 1, 1)
	for _, c := range []struct {
		s    string
		f    api.Frame
		n    int
		want api.Errno
	}{
		{"", api.Frame{}, 0, api.ErrLen},
		{"0", api.Frame{}, 0, api.ErrLen},
		{"1", api.Frame{}, 0, api.ErrForm},
		{"1" + whole[1:], api.Frame{}, 0, api.ErrForm},
		{sealed("1" + written(told(short(1)))[1:]), api.Frame{}, 0, api.ErrForm},
		{whole, told(short(0x123), 10, 255), 50, api.OK},
		{whole + "1", told(short(0x123), 10, 255), 50, api.OK},
		{whole + whole, told(short(0x123), 10, 255), 50, api.OK},
		{whole[:49], api.Frame{}, 0, api.ErrLen},
		{whole[:19], api.Frame{}, 0, api.ErrLen},
		{whole[:18], api.Frame{}, 0, api.ErrLen},
		{whole[:49] + string('0'+'1'-whole[49]), api.Frame{}, 0, api.ErrCrc},
		{strings.Repeat("0", 33), api.Frame{}, 0, api.ErrLen},
		{strings.Repeat("0", 34), told(short(0)), 34, api.OK},
		{"0" + strings.Repeat("1", 52), api.Frame{}, 0, api.ErrLen},
		{"0" + strings.Repeat("1", 53), api.Frame{}, 0, api.ErrCrc},
		// Bits that may be any: the one ahead of Len, the two ahead of it in an Ext one, and the 13th there.
		{sealed(head(short(0x123), false, "101", 2) + data), told(short(0x123), 10, 255), 50, api.OK},
		{sealed(head(long(0x123), false, "001", 2) + data), told(long(0x123), 10, 255), 70, api.OK},
		{sealed(head(long(0x123), false, "101", 2) + data), told(long(0x123), 10, 255), 70, api.OK},
		{sealed(head(long(0x123), false, "011", 2) + data), told(long(0x123), 10, 255), 70, api.OK},
		{sealed(head(long(0x123), false, "111", 2) + data), told(long(0x123), 10, 255), 70, api.OK},
		{sealed(head(long(0x123), false, "000", 2) + data), told(long(0x123), 10, 255), 70, api.OK},
		{sealed(head(long(0x1fffffff), true, "110", 2)), asked(long(0x1fffffff), 2), 54, api.OK},
		// A Len above 8.
		{sealed(head(short(0x123), false, usual, 8) + eight), ones, 98, api.OK},
		{sealed(head(short(0x123), false, usual, 9) + eight), ones, 98, api.OK},
		{sealed(head(short(0x123), false, usual, 15) + eight), ones, 98, api.OK},
		{sealed(head(short(0x123), false, usual, 9) + eight + "00000001"), api.Frame{}, 0, api.ErrCrc},
		{sealed(head(short(0x123), true, usual, 9)), asked(short(0x123), 8), 34, api.OK},
		{sealed(head(long(0x123), true, "111", 15)), asked(long(0x123), 8), 54, api.OK},
	} {
		for _, b := range [][]byte{bitsOf(c.s), raw(c.s)} {
			if f, n, err := Parse(b); f != c.f || n != c.n || err != c.want {
				t.Errorf("Parse(%v) = %v, %d, %d; want %v, %d, %d", b, f, n, err, c.f, c.n, c.want)
			}
		}
	}
	if f, n, err := Parse(nil); f != (api.Frame{}) || n != 0 || err != api.ErrLen {
		t.Errorf("Parse(nil) = %v, %d, %d", f, n, err)
	}
}

func TestParseOfWhatIsCut(t *testing.T) { // P6.2
	for _, f := range frames() {
		b := Body(f)
		for n := range b {
			if got, bits, err := Parse(b[:n]); got != (api.Frame{}) || bits != 0 || err != api.ErrLen {
				t.Fatalf("Parse of the first %d bits of %v: %v, %d, %d", n, f, got, bits, err)
			}
		}
	}
}

func TestThereAndBackByBits(t *testing.T) { // P6.4
	for _, f := range frames() {
		s := text(Body(f))
		for _, behind := range []string{"", "0", "1", "0101", strings.Repeat("1", 30), s} {
			if got, n, err := Parse(raw(s + behind)); got != f || n != len(s) || err != api.OK {
				t.Fatalf("Parse of %v, and %q behind: %v, %d, %d", f, behind, got, n, err)
			}
		}
	}
}

func TestThereAndBackByText(t *testing.T) { // P6.4
	for _, f := range frames() {
		s := Text(f)
		if got, ok := Read(s); got != f || !ok {
			t.Fatalf("Read(%q) = %v, %v; want %v", s, got, ok, f)
		}
		if got := Text(f); got != s {
			t.Fatalf("Text(%v) = %q; want %q", f, got, s)
		}
	}
}

func TestOneBitChanged(t *testing.T) { // P6.6; the first bit has P6.2's error, and one that changes Size may leave another frame
	for _, f := range frames() {
		b := Body(f)
		for at := range b {
			changed := slices.Clone(b)
			changed[at] ^= 1
			want := api.ErrCrc
			if at == 0 {
				want = api.ErrForm
			} else if size, _ := Size(changed); size != len(b) {
				continue
			}
			if got, n, err := Parse(changed); got != (api.Frame{}) || n != 0 || err != want {
				t.Fatalf("Parse of %v with another bit at %d: %v, %d, %d; want %d", f, at, got, n, err, want)
			}
		}
	}
}

func TestWhichBitsChangeSize(t *testing.T) { // P6.6: Ext, and, where there are bytes, or may be some, Remote and Len
	for _, f := range frames() {
		ahead := 15
		if f.Id.Ext {
			ahead = 35
		}
		b := Body(f)
		for at := range b {
			want := at == 13
			if at == 12 && !f.Id.Ext || at == 32 && f.Id.Ext {
				want = f.Len > 0
			}
			if at >= ahead && at < ahead+4 && !f.Remote {
				want = min(f.Len^(8>>(at-ahead)), 8) != f.Len
			}
			changed := slices.Clone(b)
			changed[at] ^= 1
			if got, ok := Size(changed); ok && (got != len(b)) != want {
				t.Fatalf("Size of %v with another bit at %d is %d, of %d", f, at, got, len(b))
			}
		}
	}
}

func TestText(t *testing.T) { // P6.3
	for _, c := range []struct {
		f    api.Frame
		want string
	}{
		{told(short(0x123), 10), "123#0a"},
		{told(short(0)), "000#"},
		{told(short(0x7ff), 0, 255, 0xab), "7ff#00ffab"},
		{told(short(0x123), 1, 2, 3, 4, 5, 6, 7, 0xf8), "123#01020304050607f8"},
		{told(long(0x123)), "00000123#"},
		{told(long(0x1fffffff), 0, 0), "1fffffff#0000"},
		{asked(short(0x123), 0), "123?0"},
		{asked(short(0x123), 8), "123?8"},
		{asked(long(0x48c0000), 5), "048c0000?5"},
	} {
		if got := Text(c.f); got != c.want {
			t.Errorf("Text(%v) = %q; want %q", c.f, got, c.want)
		}
		if got, ok := Read(c.want); got != c.f || !ok {
			t.Errorf("Read(%q) = %v, %v; want %v", c.want, got, ok, c.f)
		}
	}
	for _, f := range frames() {
		want := fmt.Sprintf("%03x", f.Id.N)
		if f.Id.Ext {
			want = fmt.Sprintf("%08x", f.Id.N)
		}
		if f.Remote {
			want += "?" + strconv.Itoa(f.Len)
		} else {
			want += "#" + fmt.Sprintf("%x", f.Data[:f.Len])
		}
		if got := Text(f); got != want {
			t.Fatalf("Text(%v) = %q; want %q", f, got, want)
		}
	}
}

func TestReadRefuses(t *testing.T) { // P6.3
	for _, s := range []string{
		"", "#", "?", "123", "1fffffff", "#0a", "?1", "12#0a", "1234#0a", "0000123#0a", "000000123#0a",
		"800#0a", "fff?0", "20000000#", "ffffffff?1",
		"123#0", "123#0a0", "123#a", "123#010203040506070809", "123#01020304050607080", "123#" + strings.Repeat("00", 300),
		"123#0A", "123#FF", "12A#", "12a#0B", "123#0g", "123#g0", "123#zz", "123#-1", "123#+1", "123#1_", "123#0x", "123# 1", "123#1 ", "123#\x00\x00", "123#\xff\xff",
		"123#0a ", " 123#0a", "123 #0a", "123#0a\n", "123##", "123#?", "123#0a#", "123#0a?1", "123#0a#0a",
		"123?", "123?9", "123?:", "123?/", "123?a", "123?-1", "123?+1", "123?-0", "123?00", "123?08", "123?10", "123?0a", "123?255", "123?256", "123?99999999999999999999", "123? 1", "123?1 ", "123?\xff", "123?\u0661", "123?1#", "123??1", "123?#",
		"123:0a", "123$0a", "\uff11\uff12\uff13#0a", "123\uff030a", "abc\xff#", "#123#0a", "?123?0",
	} {
		if got, ok := Read(s); got != (api.Frame{}) || ok {
			t.Errorf("Read(%q) = %v, %v", s, got, ok)
		}
	}
}

// readable tells whether a text is a frame's, by its signs alone.
func readable(s string) bool {
	id := strings.IndexAny(s, "?#")
	if id != 3 && id != 8 {
		return false
	}
	isHex := func(s string) bool { return strings.Trim(s, "0123456789abcdef") == "" }
	if n, err := strconv.ParseUint(s[:id], 16, 32); err != nil || !isHex(s[:id]) || id == 3 && n > 0x7ff || n > 0x1fffffff {
		return false
	}
	tail := s[id+1:]
	if s[id] == '?' {
		return len(tail) == 1 && tail >= "0" && tail <= "8"
	}
	return len(tail)%2 == 0 && len(tail) <= 16 && isHex(tail)
}

func TestReadEachSignAtEachPlace(t *testing.T) { // P6.3, P6.4
	for _, whole := range []string{"123#", "7ff#0a", "123#0102030405060708", "123?0", "7ff?8", "1fffffff#00ff", "048c0000?5"} {
		for at := range whole {
			for sign := range 256 {
				b := []byte(whole)
				b[at] = byte(sign)
				s := string(b)
				f, ok := Read(s)
				if ok != readable(s) || ok && Text(f) != s || !ok && f != (api.Frame{}) {
					t.Errorf("Read(%q) = %v, %v", s, f, ok)
				}
			}
		}
	}
}

func TestTextOfRead(t *testing.T) { // P6.4
	chance := rand.New(rand.NewSource(10))
	list := frames()
	const signs = "0123456789abcdefABg?##?-+ _\xff"
	taken, refused := 0, 0
	for range 100000 {
		b := []byte(Text(list[chance.Intn(len(list))]))
		for range chance.Intn(3) {
			at := chance.Intn(len(b))
			switch chance.Intn(3) {
			case 0:
				b[at] = signs[chance.Intn(len(signs))]
			case 1:
				b = slices.Delete(b, at, at+1)
			case 2:
				b = slices.Insert(b, at, signs[chance.Intn(len(signs))])
			}
		}
		s := string(b)
		f, ok := Read(s)
		if ok != readable(s) || ok && (Text(f) != s || Right(f) != api.OK) || !ok && f != (api.Frame{}) {
			t.Fatalf("Read(%q) = %v, %v", s, f, ok)
		}
		if ok {
			taken++
		} else {
			refused++
		}
	}
	if taken == 0 || refused == 0 {
		t.Errorf("%d texts were taken, %d refused", taken, refused)
	}
}

func TestAnyBits(t *testing.T) { // P1 of the whole: each call ends, and with an error there is nothing else
	chance := rand.New(rand.NewSource(11))
	for range 100000 {
		b := make([]byte, chance.Intn(130))
		often := 1 + chance.Intn(255)
		for at := range b {
			b[at] = byte(max(0, chance.Intn(256)-often))
		}
		size, ok := Size(b)
		f, n, err := Parse(b)
		if err != api.OK && (f != (api.Frame{}) || n != 0) {
			t.Fatalf("Parse(%v) = %v, %d, %d", b, f, n, err)
		}
		if err == api.OK && (!ok || n != size || Right(f) != api.OK) {
			t.Fatalf("Parse(%v) = %v, %d, OK; Size is %d, %v", b, f, n, size, ok)
		}
	}
}

func TestNothingHandedInIsChanged(t *testing.T) { // P3 of the whole
	for _, f := range frames() {
		b := raw(text(Body(f)))
		whole := append(b, bytes.Repeat([]byte{77}, 40)...)
		before := slices.Clone(whole)
		for n := range len(b) + 1 {
			Size(whole[:n])
			Parse(whole[:n])
		}
		if !bytes.Equal(whole, before) {
			t.Fatalf("%v became %v", before, whole)
		}
	}
}

func TestAnswersAreNew(t *testing.T) { // P3 and P5 of the whole
	for _, f := range frames() {
		first := Body(f)
		want := slices.Clone(first)
		for at := range first[:cap(first)] {
			first[:cap(first)][at] = 9
		}
		if got := Body(f); !bytes.Equal(got, want) {
			t.Fatalf("Body(%v) = %v, behind a write to what was answered ahead; want %v", f, got, want)
		}
	}
}
