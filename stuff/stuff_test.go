package stuff

import (
	"bytes"
	"math"
	"math/rand"
	"slices"
	"strings"
	"testing"

	"bellbuoy/api"
)

func bitsOf(s string) []byte {
	b := make([]byte, len(s))
	for i := range s {
		b[i] = s[i] - '0'
	}
	return b
}

// text is a string of bits as one writes it.
func text(b []byte) string {
	var s []byte
	for _, v := range b {
		s = append(s, "01?"[min(v, 2)])
	}
	return string(s)
}

// raw is the string with bytes beside 0 and 1 for its ones.
func raw(s string) []byte {
	others := []byte{255, 2, 128, 3, 1, 48, 16}
	b := bitsOf(s)
	for i, v := range b {
		if v == 1 {
			b[i] = others[i%len(others)]
		}
	}
	return b
}

// numbered is the width lowest bits of n, the highest one first.
func numbered(n, width int) string {
	s := make([]byte, width)
	for i := range s {
		s[i] = '0' + byte(n>>(width-1-i)&1)
	}
	return string(s)
}

// samples are all strings of up to 13 bits, and longer ones of which many bits are like the one ahead.
func samples() []string {
	chance := rand.New(rand.NewSource(8))
	var list []string
	for n := range 14 {
		for k := range 1 << n {
			list = append(list, numbered(k, n))
		}
	}
	for n := 14; n < 200; n++ {
		for often := 1; often < 12; often++ {
			b := make([]byte, n)
			last := byte('0')
			for i := range b {
				if chance.Intn(often) == 0 {
					last ^= 1
				}
				b[i] = last
			}
			list = append(list, string(b))
		}
	}
	return list
}

// put is what Stuff ought to answer, by the last five letters of what is there already.
func put(s string) string {
	var out string
	for i := range s {
		out += s[i : i+1]
		if strings.HasSuffix(out, "00000") {
			out += "1"
		} else if strings.HasSuffix(out, "11111") {
			out += "0"
		}
	}
	return out
}

// taken is what Unstuff ought to answer, by the five letters ahead of each one.
func taken(s string) (string, int, api.Errno) {
	var out string
	for i := range s {
		switch s[max(0, i-5):i] {
		case "00000", "11111":
			if s[i] == s[i-1] {
				return "", i, api.ErrStuff
			}
		default:
			out += s[i : i+1]
		}
	}
	return out, len(s), api.OK
}

func TestKinds(t *testing.T) { // they stand in the chapter's order, and are other ones
	if Data != 0 || Extra != 1 || Wrong != 2 {
		t.Errorf("Data %d, Extra %d, Wrong %d", Data, Extra, Wrong)
	}
}

func TestDue(t *testing.T) { // P4.1
	for _, c := range []struct {
		r    Run
		want byte
		due  bool
	}{
		{Run{}, 0, false},
		{Run{1, 0}, 0, false},
		{Run{0, 1}, 0, false},
		{Run{0, 4}, 0, false},
		{Run{1, 4}, 0, false},
		{Run{7, 4}, 0, false},
		{Run{0, 5}, 1, true},
		{Run{1, 5}, 0, true},
		{Run{2, 5}, 0, true},
		{Run{255, 5}, 0, true},
		{Run{0, 6}, 1, true},
		{Run{1, 6}, 0, true},
		{Run{128, 99}, 0, true},
		{Run{0, math.MaxInt}, 1, true},
		{Run{1, math.MaxInt}, 0, true},
		{Run{0, -1}, 0, false},
		{Run{1, -5}, 0, false},
		{Run{1, math.MinInt}, 0, false},
	} {
		if got, due := Due(c.r); got != c.want || due != c.due {
			t.Errorf("Due(%v) = %d, %v; want %d, %v", c.r, got, due, c.want, c.due)
		}
	}
}

func TestNext(t *testing.T) { // P4.1
	for _, c := range []struct {
		r    Run
		bit  byte
		want Run
		kind Kind
	}{
		{Run{}, 0, Run{0, 1}, Data},
		{Run{}, 1, Run{1, 1}, Data},
		{Run{1, 0}, 0, Run{0, 1}, Data},
		{Run{1, 0}, 1, Run{1, 1}, Data},
		{Run{1, 0}, 9, Run{1, 1}, Data},
		{Run{0, 1}, 0, Run{0, 2}, Data},
		{Run{0, 1}, 1, Run{1, 1}, Data},
		{Run{1, 1}, 1, Run{1, 2}, Data},
		{Run{1, 1}, 0, Run{0, 1}, Data},
		{Run{1, 3}, 0, Run{0, 1}, Data},
		{Run{0, 4}, 0, Run{0, 5}, Data},
		{Run{0, 4}, 1, Run{1, 1}, Data},
		{Run{1, 4}, 1, Run{1, 5}, Data},
		{Run{1, 4}, 0, Run{0, 1}, Data},
		{Run{1, 2}, 2, Run{1, 3}, Data},
		{Run{0, 2}, 255, Run{1, 1}, Data},
		{Run{2, 2}, 1, Run{1, 3}, Data},
		{Run{2, 2}, 3, Run{1, 3}, Data},
		{Run{2, 2}, 2, Run{1, 3}, Data},
		{Run{2, 2}, 0, Run{0, 1}, Data},
		{Run{0, 5}, 1, Run{1, 1}, Extra},
		{Run{0, 5}, 64, Run{1, 1}, Extra},
		{Run{1, 5}, 0, Run{0, 1}, Extra},
		{Run{9, 5}, 0, Run{0, 1}, Extra},
		{Run{0, 6}, 1, Run{1, 1}, Extra},
		{Run{1, 1000}, 0, Run{0, 1}, Extra},
		{Run{0, math.MaxInt}, 1, Run{1, 1}, Extra},
		{Run{0, 5}, 0, Run{0, 5}, Wrong},
		{Run{1, 5}, 1, Run{1, 5}, Wrong},
		{Run{1, 5}, 2, Run{1, 5}, Wrong},
		{Run{0, 6}, 0, Run{0, 6}, Wrong},
		{Run{1, 77}, 1, Run{1, 77}, Wrong},
		{Run{1, math.MaxInt}, 1, Run{1, math.MaxInt}, Wrong},
		{Run{9, 5}, 1, Run{9, 5}, Wrong},
		{Run{9, 8}, 4, Run{9, 8}, Wrong},
		{Run{0, -1}, 0, Run{0, 1}, Data},
		{Run{0, -1}, 1, Run{1, 1}, Data},
		{Run{1, -1}, 1, Run{1, 1}, Data},
		{Run{1, -7}, 0, Run{0, 1}, Data},
		{Run{3, math.MinInt}, 1, Run{1, 1}, Data},
		{Run{0, math.MinInt}, 0, Run{0, 1}, Data},
	} {
		if got, kind := Next(c.r, c.bit); got != c.want || kind != c.kind {
			t.Errorf("Next(%v, %d) = %v, %d; want %v, %d", c.r, c.bit, got, kind, c.want, c.kind)
		}
	}
}

func TestStuff(t *testing.T) { // P4.2, and the chapter's first example
	for _, c := range []struct {
		s, want string
	}{
		{"", ""},
		{"0", "0"},
		{"1", "1"},
		{"0000", "0000"},
		{"00000", "000001"},
		{"11111", "111110"},
		{"000000", "0000010"},
		{"0000011111", "000001111101"},
		{"000001111", "00000111110"},
		{"00000111100001", "00000111110000011"},
		{"111110000", "11111000001"},
		{"0000100001", "0000100001"},
		{"10000010", "100000110"},
		{"0111110", "01111100"},
		{"0000000000", "000001000001"},
	} {
		if got := text(Stuff(bitsOf(c.s))); got != c.want {
			t.Errorf("Stuff(%s) = %s; want %s", c.s, got, c.want)
		}
	}
	if got := Stuff(nil); len(got) != 0 {
		t.Errorf("Stuff(nil) = %v", got)
	}
	for _, s := range samples() {
		if got, want := text(Stuff(raw(s))), put(s); got != want {
			t.Fatalf("Stuff(%s) = %s; want %s", s, got, want)
		}
	}
}

func TestUnstuff(t *testing.T) { // P4.2, and the chapter's second example
	for _, c := range []struct {
		s, want string
		n       int
		err     api.Errno
	}{
		{"", "", 0, api.OK},
		{"0", "0", 1, api.OK},
		{"00000", "00000", 5, api.OK}, // that nothing stands where one is due is no fault
		{"000001", "00000", 6, api.OK},
		{"111110", "11111", 6, api.OK},
		{"0000010", "000000", 7, api.OK},
		{"000001111101", "0000011111", 12, api.OK},
		{"000000", "", 5, api.ErrStuff},
		{"111111", "", 5, api.ErrStuff},
		{"0111111", "", 6, api.ErrStuff},
		{"00000111111", "", 10, api.ErrStuff},
		{"0000011111", "000001111", 10, api.OK},
		{"0000001111110", "", 5, api.ErrStuff},
		{"000001000000", "", 11, api.ErrStuff},
	} {
		for _, b := range [][]byte{bitsOf(c.s), raw(c.s)} {
			got, n, err := Unstuff(b)
			if text(got) != c.want || n != c.n || err != c.err {
				t.Errorf("Unstuff(%v) = %s, %d, %d; want %s, %d, %d", b, text(got), n, err, c.want, c.n, c.err)
			}
		}
	}
	if got, n, err := Unstuff(nil); len(got) != 0 || n != 0 || err != api.OK {
		t.Errorf("Unstuff(nil) = %v, %d, %d", got, n, err)
	}
	for _, s := range samples() {
		want, at, errno := taken(s)
		if got, n, err := Unstuff(raw(s)); text(got) != want || n != at || err != errno {
			t.Fatalf("Unstuff(%s) = %s, %d, %d; want %s, %d, %d", s, text(got), n, err, want, at, errno)
		}
	}
}

func TestMost(t *testing.T) { // P4.2
	for _, c := range []struct {
		n, want int
	}{
		{0, 0},
		{-1, 0},
		{math.MinInt, 0},
		{1, 1},
		{2, 2},
		{4, 4},
		{5, 6},
		{8, 9},
		{9, 11},
		{12, 14},
		{13, 16},
		{83, 103},
		{98, 122},
		{1<<30 - 1, 1<<30 - 1 + 1<<28 - 1},
		{1 << 30, 1<<30 + 1<<28 - 1},
		{1<<30 + 1, 0},
		{1 << 31, 0},
		{math.MaxInt, 0},
	} {
		if got := Most(c.n); got != c.want {
			t.Errorf("Most(%d) = %d; want %d", c.n, got, c.want)
		}
	}
}

func TestThereAndBack(t *testing.T) { // P4.3
	for _, s := range samples() {
		stuffed := Stuff(raw(s))
		got, n, err := Unstuff(stuffed)
		if text(got) != s || n != len(stuffed) || err != api.OK {
			t.Fatalf("Unstuff of Stuff(%s) = %s, %d, %d", s, text(got), n, err)
		}
	}
}

func TestSixAlikeBits(t *testing.T) { // P4.4
	six := func(s string) int {
		zeros, ones := strings.Index(s, "000000"), strings.Index(s, "111111")
		if zeros < 0 || ones >= 0 && ones < zeros {
			return ones
		}
		return zeros
	}
	for _, s := range samples() {
		if stuffed := text(Stuff(bitsOf(s))); six(stuffed) >= 0 {
			t.Fatalf("Stuff(%s) = %s: six alike bits", s, stuffed)
		}
		got, at, err := Unstuff(bitsOf(s))
		if first := six(s); first >= 0 && (err != api.ErrStuff || at > first+5 || got != nil) {
			t.Fatalf("Unstuff(%s) = %v, %d, %d: six alike bits at %d", s, got, at, err, first)
		}
	}
}

func TestHowLongItIsAtMost(t *testing.T) { // P4.5
	longest := map[int]int{}
	for _, s := range samples() {
		long := len(Stuff(bitsOf(s)))
		if long > Most(len(s)) {
			t.Fatalf("Stuff(%s) has %d bits, above %d", s, long, Most(len(s)))
		}
		longest[len(s)] = max(longest[len(s)], long)
	}
	for n := range 14 {
		if longest[n] != Most(n) {
			t.Errorf("of %d bits %d come at most; Most is %d", n, longest[n], Most(n))
		}
	}
	for n := range 400 {
		worst := make([]byte, n)
		for i := range worst { // five, and then four by four, other ones each time
			worst[i] = byte(max(0, i-1) / 4 % 2)
		}
		if got := len(Stuff(worst)); got != Most(n) {
			t.Errorf("Stuff(%s) has %d bits; want %d", text(worst), got, Most(n))
		}
	}
}

func TestAlikeBitsOnlyHaveFewer(t *testing.T) { // P4.5: where there's room for it, which is so from 21 on
	for n := range 400 {
		for _, bit := range []string{"0", "1"} {
			got := len(Stuff(bitsOf(strings.Repeat(bit, n))))
			if got != n+n/5 || got > Most(n) || n > 20 && got >= Most(n) {
				t.Errorf("Stuff of %d alike bits has %d, Most is %d", n, got, Most(n))
			}
		}
	}
}

func TestNothingHandedInIsChangedOrKept(t *testing.T) { // P3 of the whole
	for name, call := range map[string]func(b []byte) []byte{
		"Stuff":   Stuff,
		"Unstuff": func(b []byte) []byte { data, _, _ := Unstuff(b); return data },
	} {
		for _, s := range samples() {
			whole := append(raw(s), bytes.Repeat([]byte{77}, 40)...)
			before := slices.Clone(whole)
			answer := call(whole[:len(s)])
			for i := range answer[:cap(answer)] {
				answer[:cap(answer)][i] ^= 0xFF // what is answered is the caller's to write to
			}
			if !bytes.Equal(whole, before) {
				t.Fatalf("%s changed or handed out what it was given: %v, now %v", name, before, whole)
			}
		}
	}
}
