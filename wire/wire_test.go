package wire

import (
	"bytes"
	"fmt"
	"math"
	"math/rand"
	"slices"
	"strings"
	"testing"

	"bellbuoy/api"
	"bellbuoy/frame"
)

func short(n uint32) api.Ident { return api.Ident{N: n} }
func long(n uint32) api.Ident  { return api.Ident{Ext: true, N: n} }

// told is a frame of these bytes, asked one that asks for so many.
func told(id api.Ident, data ...byte) api.Frame {
	f := api.Frame{Id: id, Len: len(data)}
	copy(f.Data[:], data)
	return f
}

func asked(id api.Ident, length int) api.Frame {
	return api.Frame{Id: id, Remote: true, Len: length}
}

// frames are of both sorts, of each Len, that ask and that tell; of noughts, of ones, and of any bytes; and some of each sort whose last five bits are alike.
func frames() []api.Frame {
	chance := rand.New(rand.NewSource(12))
	ids := []api.Ident{short(0), short(0x123), short(0x7ff), long(0), long(0x123 << 18), long(0x1fffffff)}
	for range 6 {
		ids = append(ids, short(chance.Uint32()>>21), long(chance.Uint32()>>3))
	}
	list := closing()
	for _, id := range ids {
		for length := range 9 {
			data := make([]byte, length)
			chance.Read(data)
			list = append(list, asked(id, length), told(id, data...), told(id, make([]byte, length)...), told(id, bytes.Repeat([]byte{255}, length)...))
		}
	}
	return list
}

// closing is frames behind whose body's last bit one more is due: of each sort, Remote and not, two with 0 there and two with 1.
func closing() []api.Frame {
	type kind struct {
		ext, remote bool
		last        byte
	}
	found := map[kind]int{}
	var list []api.Frame
	for n := range uint32(2048) {
		for _, f := range []api.Frame{told(short(n), 1), asked(short(n), 8), told(long(n<<9), 1), asked(long(n<<9), 0)} {
			b := text(frame.Body(f))
			s := put(b)
			k := kind{f.Id.Ext, f.Remote, s[len(s)-1]}
			if len(s) == len(put(b[:len(b)-1]))+2 && found[k] < 2 {
				found[k]++
				list = append(list, f)
			}
		}
	}
	return list
}

func bitsOf(s string) []byte {
	b := make([]byte, len(s))
	for at := range s {
		b[at] = s[at] - '0'
	}
	return b
}

// text is a string of bits as one writes it.
func text(b []byte) string {
	var s []byte
	for _, v := range b {
		s = append(s, "01?"[min(v, 2)])
	}
	return string(s)
}

// raw is the string with bytes beside 0 and 1 for its ones.
func raw(s string) []byte {
	others := []byte{255, 2, 128, 3, 48, 16}
	b := bitsOf(s)
	for at, v := range b {
		if v == 1 {
			b[at] = others[at%len(others)]
		}
	}
	return b
}

// flipped is the string with the other bit at a place.
func flipped(s string, at int) string {
	return s[:at] + string('0'+'1'-s[at]) + s[at+1:]
}

// put is a string with bits put between, by the last five letters of what is there already.
func put(s string) string {
	var out string
	for at := range s {
		out += s[at : at+1]
		if strings.HasSuffix(out, "00000") {
			out += "1"
		} else if strings.HasSuffix(out, "11111") {
			out += "0"
		}
	}
	return out
}

// sealed is a string with its sum behind, as one divides by hand: 15 noughts behind it, and the divisor, of 16 bits, laid below each 1.
func sealed(s string) string {
	divisor := bitsOf("1100010110011001")
	rest := bitsOf(s + strings.Repeat("0", 15))
	for at := range s {
		if rest[at] == 1 {
			for i, v := range divisor {
				rest[at+i] ^= v
			}
		}
	}
	return s + text(rest[len(s):])
}

// head is a body's bits up to those of Len, and these.
func head(id api.Ident, remote bool, length int) string {
	asks := "0"
	if remote {
		asks = "1"
	}
	if !id.Ext {
		return fmt.Sprintf("0%011b%s00%04b", id.N, asks, length)
	}
	all := fmt.Sprintf("%029b", id.N)
	return "0" + all[:11] + "11" + all[11:] + asks + "00" + fmt.Sprintf("%04b", length)
}

// body is a frame's bits from the first one to its sum.
func body(f api.Frame) string {
	s := head(f.Id, f.Remote, f.Len)
	if !f.Remote {
		for _, v := range f.Data[:f.Len] {
			s += fmt.Sprintf("%08b", v)
		}
	}
	return sealed(s)
}

// ten is what stands behind a body on the wire.
const ten = "1111111111"

// answer is what Decode answers.
type answer struct {
	f     api.Frame
	n     int
	errno api.Errno
}

func decode(b []byte) answer {
	f, n, errno := Decode(b)
	return answer{f, n, errno}
}

// read is what Decode ought to answer, by the five letters ahead of each one, and by what frame.Parse makes of what is left.
func read(s string) answer {
	var data []byte
	at := 0
	for ; ; at++ {
		f, _, errno := frame.Parse(data)
		five := s[max(0, at-5):at]
		due := five == "00000" || five == "11111"
		if at > 0 && errno != api.ErrLen && !due {
			return readTail(s, at, f, errno)
		}
		if at >= len(s) {
			return answer{n: at, errno: api.ErrLen}
		}
		if at == 0 && s[0] == '1' {
			return answer{n: 0, errno: api.ErrForm}
		}
		if due && s[at] == s[at-1] {
			return answer{n: at, errno: api.ErrStuff}
		}
		if !due {
			data = append(data, s[at]-'0')
		}
	}
}

// readTail is what comes of the bits behind a body that ends ahead of a place.
func readTail(s string, at int, f api.Frame, errno api.Errno) answer {
	ends := s[at:min(len(s), at+10)]
	for n := range ends {
		if n != 1 && ends[n] == '0' {
			return answer{n: at + n, errno: api.ErrForm}
		}
		if n == 2 && errno != api.OK {
			return answer{n: at + n, errno: errno}
		}
	}
	if len(ends) < 10 {
		return answer{n: len(s), errno: api.ErrLen}
	}
	return answer{f, at + 10, api.OK}
}

// wrongs are frames that can't be.
func wrongs() []api.Frame {
	list := []api.Frame{
		{Id: short(0x800)},
		{Id: short(math.MaxUint32), Len: 8},
		{Id: long(1 << 29)},
		{Id: long(math.MaxUint32), Remote: true},
		{Id: short(1), Len: -1},
		{Id: short(1), Len: 9},
		{Id: short(1), Len: 16, Remote: true},
		{Id: long(1), Len: math.MinInt},
		{Id: long(1), Len: math.MaxInt, Data: [8]byte{1}},
	}
	for at := range 8 {
		f := api.Frame{Id: short(1), Len: at}
		f.Data[at] = 1
		asks := api.Frame{Id: long(1), Remote: true, Len: 8}
		asks.Data[at] = 128
		list = append(list, f, asks)
	}
	return list
}

func TestFramesHaveEachKind(t *testing.T) { // what the tests below stand on
	dues := map[string]int{}
	for _, f := range frames() {
		with := text(Encode(f))
		with = with[:len(with)-10]
		for at := 5; at < len(with); at++ {
			if five := with[at-5 : at]; at == len(with)-1 && (five == "00000" || five == "11111") {
				dues[fmt.Sprint(f.Id.Ext, f.Remote, five)]++
			}
		}
	}
	if len(dues) != 8 {
		t.Errorf("frames with a bit due behind the last one: %v; want each of 8 kinds", dues)
	}
}

func TestEncodeWrittenOut(t *testing.T) { // P7.1
	for _, c := range []struct {
		f    api.Frame
		want string
	}{
		{told(short(0x123), 10), "000100100011" + "00000" + "1" + "0" + "1" + "00001010" + "101101011001011" + ten},
		{told(short(0)), "000001" + "000001" + "000001" + "000001" + "000001" + "000001" + "0000" + ten},
		{asked(long(0x123<<18), 8), "000100100011" + "11" + "00000" + "1" + "00000" + "1" + "00000" + "1" + "000" + "1" + "00" + "1000" + "10110011111" + "0" + "0101" + ten},
	} {
		if got := text(Encode(c.f)); got != c.want {
			t.Errorf("Encode(%v) = %s; want %s", c.f, got, c.want)
		}
	}
}

func TestEncode(t *testing.T) { // P7.1
	for _, f := range frames() {
		want := put(body(f)) + ten
		if got := text(Encode(f)); got != want {
			t.Fatalf("Encode(%v) = %s; want %s", f, got, want)
		}
		if got := Long(f); got != len(want) {
			t.Fatalf("Long(%v) = %d; want %d", f, got, len(want))
		}
	}
}

func TestEncodeOfWhatCanNotBe(t *testing.T) { // P7.1
	for _, f := range wrongs() {
		if b, n := Encode(f), Long(f); len(b) != 0 || n != 0 {
			t.Errorf("of %v: Encode %v, Long %d", f, b, n)
		}
	}
}

func TestMost(t *testing.T) { // P7.1
	for bytes, want := range map[int][2]int{
		0:             {52, 77},
		1:             {62, 87},
		2:             {72, 97},
		3:             {82, 107},
		4:             {92, 117},
		5:             {102, 127},
		6:             {112, 137},
		7:             {122, 147},
		8:             {132, 157},
		9:             {},
		10:            {},
		15:            {},
		16:            {},
		-1:            {},
		-8:            {},
		math.MaxInt:   {},
		math.MinInt:   {},
		1 << 32:       {},
		1<<32 + 8:     {},
		math.MaxInt32: {},
	} {
		if got := [2]int{Most(false, bytes), Most(true, bytes)}; got != want {
			t.Errorf("Most of %d bytes is %d, of an Ext one %d; want %v", bytes, got[0], got[1], want)
		}
	}
}

func TestLongIsAtMostMost(t *testing.T) { // P7.4
	least := math.MaxInt
	check := func(f api.Frame) {
		held := f.Len
		if f.Remote {
			held = 0
		}
		n := Long(f)
		if most := Most(f.Id.Ext, held); n > most || n < 44 {
			t.Fatalf("Long(%v) = %d; Most is %d", f, n, most)
		}
		least = min(least, n)
	}
	for _, f := range frames() {
		check(f)
	}
	for n := range uint32(2048) {
		check(told(short(n)))
		check(asked(short(n), 8))
		check(told(short(n), 0x0f, 0x0f, 0x0f, 0x0f))
	}
	if least != 44 {
		t.Errorf("the shortest one has %d bits; one of 44 is among them", least)
	}
}

func TestDecodeOfNoBits(t *testing.T) { // P7.2, and the chapter's example
	for _, b := range [][]byte{nil, {}, make([]byte, 0, 9)} {
		if got := decode(b); got != (answer{errno: api.ErrLen}) {
			t.Errorf("Decode of no bits: %v", got)
		}
	}
}

func TestThereAndBack(t *testing.T) { // P7.3
	for _, f := range frames() {
		s := text(Encode(f))
		slot := len(s) - 9
		want := answer{f, len(s), api.OK}
		for _, one := range []string{s, flipped(s, slot)} {
			for _, behind := range []string{"", "0", "1", "000000", "111111", "0101", strings.Repeat("1", 30), s} {
				for _, b := range [][]byte{bitsOf(one + behind), raw(one + behind)} {
					if got := decode(b); got != want {
						t.Fatalf("Decode of %v, slot %c, %q behind: %v", f, one[slot], behind, got)
					}
				}
			}
		}
	}
}

func TestFirstBitOfOne(t *testing.T) { // P7.2
	for _, s := range []string{"1", "10", "111111", "1000000", strings.Repeat("1", 200), flipped(put(body(told(short(3))))+ten, 0)} {
		for _, b := range [][]byte{bitsOf(s), raw(s)} {
			if got := decode(b); got != (answer{errno: api.ErrForm}) {
				t.Errorf("Decode(%v) = %v", b, got)
			}
		}
	}
}

func TestCutAnywhere(t *testing.T) { // P7.5
	for _, f := range frames() {
		s := text(Encode(f))
		for _, one := range []string{s, flipped(s, len(s)-9)} {
			for n := range one {
				for _, b := range [][]byte{bitsOf(one[:n]), raw(one[:n])} {
					if got := decode(b); got != (answer{n: n, errno: api.ErrLen}) {
						t.Fatalf("Decode of the first %d bits of %v: %v", n, f, got)
					}
				}
			}
		}
	}
}

func TestOneOfTheTenFlipped(t *testing.T) { // P7.6, and of several the first one
	for _, f := range frames() {
		s := text(Encode(f))
		from := len(s) - 10
		for n := range 10 {
			want := answer{n: from + n, errno: api.ErrForm}
			if n == 1 {
				want = answer{f, len(s), api.OK}
			}
			one := flipped(s, from+n)
			if got := decode(bitsOf(one)); got != want {
				t.Fatalf("Decode of %v with bit %d of the ten flipped: %v; want %v", f, n, got, want)
			}
			if n == 1 {
				continue
			}
			if got := decode(bitsOf(one[:from+n+1])); got != want {
				t.Fatalf("Decode of %v with bit %d of the ten flipped, and none behind: %v; want %v", f, n, got, want)
			}
			if got := decode(bitsOf(one[:from+n] + strings.Repeat("0", 12))); got != want {
				t.Fatalf("Decode of %v with noughts from bit %d of the ten on: %v; want %v", f, n, got, want)
			}
		}
	}
}

func TestBitsPutBetweenFlipped(t *testing.T) { // P7.2: each bit that was put between, and the one that is due behind the last bit
	last := 0
	for _, f := range frames() {
		s := put(body(f))
		for at := 5; at < len(s); at++ {
			if five := s[at-5 : at]; five != "00000" && five != "11111" {
				continue
			}
			if at == len(s)-1 {
				last++
			}
			want := answer{n: at, errno: api.ErrStuff}
			for _, one := range []string{flipped(s, at) + ten, flipped(s, at)[:at+1]} {
				for _, b := range [][]byte{bitsOf(one), raw(one)} {
					if got := decode(b); got != want {
						t.Fatalf("Decode of %v with the bit flipped that was put in at %d of %d: %v", f, at, len(s), got)
					}
				}
			}
		}
	}
	if last == 0 {
		t.Error("no bit was due behind a last one")
	}
}

func TestSixAlikeBits(t *testing.T) { // P7.2: six alike bits at each place of a body
	for _, f := range frames() {
		s := put(body(f))
		behindLen := len(put(head(f.Id, f.Remote, f.Len)))
		for at := range len(s) - 5 {
			for _, six := range []string{"000000", "111111"} {
				one := s[:at] + six + s[at+6:] + ten
				got := decode(bitsOf(one))
				if want := read(one); got != want {
					t.Fatalf("Decode(%s) = %v; want %v", one, got, want)
				}
				if got.errno == api.OK || got.n > at+5 && at >= behindLen {
					t.Fatalf("Decode of %v with %s at %d: %v", f, six, at, got)
				}
			}
		}
	}
}

func TestSumWithOneBitChanged(t *testing.T) { // P7.2
	for _, f := range frames() {
		whole := body(f)
		for at := len(whole) - 15; at < len(whole); at++ {
			s := put(flipped(whole, at))
			ack := len(s) + 2
			for _, c := range []struct {
				s    string
				want answer
			}{
				{s + ten, answer{n: ack, errno: api.ErrCrc}},
				{s + "101" + "1111111", answer{n: ack, errno: api.ErrCrc}},
				{s + "111", answer{n: ack, errno: api.ErrCrc}},
				{s + "111" + "0000000", answer{n: ack, errno: api.ErrCrc}},
				{s + "110" + "1111111", answer{n: ack, errno: api.ErrForm}},
				{s + "100" + "1111111", answer{n: ack, errno: api.ErrForm}},
				{s + "011" + "1111111", answer{n: len(s), errno: api.ErrForm}},
				{s + "11", answer{n: len(s) + 2, errno: api.ErrLen}},
				{s + "1", answer{n: len(s) + 1, errno: api.ErrLen}},
				{s, answer{n: len(s), errno: api.ErrLen}},
			} {
				for _, b := range [][]byte{bitsOf(c.s), raw(c.s)} {
					if got := decode(b); got != c.want {
						t.Fatalf("Decode of %v with bit %d changed, %s behind: %v; want %v", f, at, c.s[len(s):], got, c.want)
					}
				}
			}
		}
	}
}

func TestBitsThatAreAFrames(t *testing.T) { // P7.2, by P6.2: bits that may be any, and a Len above 8
	eight := strings.Repeat("00000001", 8)
	for _, c := range []struct {
		s    string
		want api.Frame
	}{
		{head(short(0x123), false, 9) + eight, told(short(0x123), 1, 1, 1, 1, 1, 1, 1, 1)},
		{head(short(0x123), false, 15) + eight, told(short(0x123), 1, 1, 1, 1, 1, 1, 1, 1)},
		{head(long(0x123), false, 8) + eight, told(long(0x123), 1, 1, 1, 1, 1, 1, 1, 1)},
		{head(long(0x123), false, 12) + eight, told(long(0x123), 1, 1, 1, 1, 1, 1, 1, 1)},
		{head(short(0x123), true, 9), asked(short(0x123), 8)},
		{head(long(0x123), true, 15), asked(long(0x123), 8)},
		{flipped(head(short(0x123), false, 0), 14), told(short(0x123))},
		{flipped(head(long(0x123), false, 0), 12), told(long(0x123))},
		{flipped(head(long(0x123), false, 0), 33), told(long(0x123))},
		{flipped(head(long(0x123), true, 3), 34), asked(long(0x123), 3)},
	} {
		s := put(sealed(c.s)) + ten
		for _, b := range [][]byte{bitsOf(s), raw(s), raw(s + "0")} {
			if got := decode(b); got != (answer{c.want, len(s), api.OK}) {
				t.Errorf("Decode(%v) = %v; want %v, %d", b, got, c.want, len(s))
			}
		}
	}
}

func TestAnyBitFlipped(t *testing.T) { // P7.2
	for _, f := range frames() {
		s := text(Encode(f))
		for at := range s {
			one := flipped(s, at)
			if got, want := decode(raw(one)), read(one); got != want {
				t.Fatalf("Decode(%s) = %v; want %v", one, got, want)
			}
		}
	}
}

// changed is what is left of a string behind some changes: other bits, more of them, fewer.
func changed(chance *rand.Rand, s string) string {
	for range chance.Intn(4) {
		if s == "" {
			return s
		}
		at := chance.Intn(len(s))
		switch chance.Intn(5) {
		case 0:
			s = s[:at] + s[at+1:]
		case 1:
			s = s[:at] + "0" + s[at:]
		case 2:
			s = s[:at]
		default:
			s = flipped(s, at)
		}
	}
	return s
}

func TestChangedBits(t *testing.T) { // P7.2
	chance := rand.New(rand.NewSource(13))
	list := frames()
	seen := map[api.Errno]int{}
	for range 60000 {
		f := list[chance.Intn(len(list))]
		s := put(changed(chance, body(f))) + ten
		if chance.Intn(2) == 0 {
			s = changed(chance, s)
		}
		want := read(s)
		seen[want.errno]++
		if got := decode(raw(s)); got != want {
			t.Fatalf("Decode(%s) = %v; want %v", s, got, want)
		}
	}
	for _, errno := range []api.Errno{api.OK, api.ErrLen, api.ErrForm, api.ErrStuff, api.ErrCrc} {
		if seen[errno] == 0 {
			t.Errorf("nothing ended with %d", errno)
		}
	}
}

func TestAnyBits(t *testing.T) { // P1 of the whole, and P2: what is refused has no frame
	chance := rand.New(rand.NewSource(14))
	for range 100000 {
		b := make([]byte, chance.Intn(180))
		often, last := 1+chance.Intn(6), byte(0)
		for at := range b {
			if at > 0 && chance.Intn(often) == 0 {
				last = byte(chance.Intn(256)) &^ byte(255*chance.Intn(2))
			}
			b[at] = last
		}
		var s string
		for _, v := range b {
			s += string('0' + min(v, 1))
		}
		got, want := decode(b), read(s)
		if got != want || got.errno != api.OK && got.f != (api.Frame{}) {
			t.Fatalf("Decode(%v) = %v; want %v", b, got, want)
		}
	}
}

func TestNothingHandedInIsChanged(t *testing.T) { // P3 of the whole
	for _, f := range frames() {
		s := text(Encode(f))
		whole := append(raw(s), bytes.Repeat([]byte{77}, 40)...)
		before := slices.Clone(whole)
		for n := range len(s) + 1 {
			Decode(whole[:n])
		}
		if !bytes.Equal(whole, before) {
			t.Fatalf("%v became %v", before, whole)
		}
	}
}

func TestAnswersAreNew(t *testing.T) { // P3 and P5 of the whole
	for _, f := range frames() {
		first := Encode(f)
		want := slices.Clone(first)
		for at := range first[:cap(first)] {
			first[:cap(first)][at] = 9
		}
		if got := Encode(f); !bytes.Equal(got, want) {
			t.Fatalf("Encode(%v) = %v, behind a write to what was answered ahead; want %v", f, got, want)
		}
	}
}
