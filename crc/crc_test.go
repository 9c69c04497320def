package crc

import (
	"bytes"
	"math/bits"
	"math/rand"
	"slices"
	"testing"
)

func bitsOf(s string) []byte {
	b := make([]byte, len(s))
	for i := range s {
		b[i] = s[i] - '0'
	}
	return b
}

// raw is the string with bytes beside 0 and 1 for its ones.
func raw(b []byte) []byte {
	others := []byte{255, 2, 128, 3, 48, 16}
	b = slices.Clone(b)
	for i, v := range b {
		if v == 1 {
			b[i] = others[i%len(others)]
		}
	}
	return b
}

// numbered is the width lowest bits of n, the highest one first.
func numbered(n, width int) []byte {
	b := make([]byte, width)
	for i := range b {
		b[i] = byte(n >> (width - 1 - i) & 1)
	}
	return b
}

func chances(chance *rand.Rand, n int) []byte {
	b := make([]byte, n)
	for i := range b {
		b[i] = byte(chance.Intn(2))
	}
	return b
}

// samples are clean strings of many lengths, all of the short ones.
func samples() [][]byte {
	chance := rand.New(rand.NewSource(3))
	list := [][]byte{nil}
	for n := range 9 {
		for k := range 1 << n {
			list = append(list, numbered(k, n))
		}
	}
	for n := 9; n < 140; n++ {
		list = append(list, make([]byte, n), bytes.Repeat([]byte{1}, n), chances(chance, n), chances(chance, n))
	}
	return list
}

// others are b's bits, but those where mask has 1.
func others(b, mask []byte) []byte {
	b = slices.Clone(b)
	for i, v := range mask {
		b[i] ^= v
	}
	return b
}

// divided is a string's sum as one divides by hand: 15 noughts behind it, and the divisor, with its sixteenth bit, laid below each 1.
func divided(b []byte) uint16 {
	divisor := bitsOf("1100010110011001")
	rest := append(slices.Clone(b), make([]byte, 15)...)
	for at := range b {
		if rest[at] == 1 {
			for i, v := range divisor {
				rest[at+i] ^= v
			}
		}
	}
	sum := uint16(0)
	for _, v := range rest[len(b):] {
		sum = sum<<1 | uint16(v)
	}
	return sum
}

func TestStep(t *testing.T) { // P3.1
	for _, c := range []struct {
		sum  uint16
		bit  byte
		want uint16
	}{
		{0, 0, 0},
		{0, 1, 0x4599},
		{1, 0, 2},
		{1, 1, 0x459B},
		{0x2000, 0, 0x4000},
		{0x4000, 0, 0x4599},
		{0x4000, 1, 0},
		{0x4599, 0, 0x4EAB},
		{0x4599, 1, 0x0B32},
		{0x7FFF, 0, 0x3A67},
		{0x7FFF, 1, 0x7FFE},
		{0x3FFF, 1, 0x3A67},
		{0, 2, 0x4599},
		{0, 255, 0x4599},
		{0x4000, 128, 0},
		{0x4000, 48, 0},
		{0x8000, 0, 0},
		{0x8000, 1, 0x4599},
		{0xC000, 1, 0},
		{0xFFFF, 0, 0x3A67},
		{0xFFFF, 2, 0x7FFE},
	} {
		if got := Step(c.sum, c.bit); got != c.want {
			t.Errorf("Step(%#x, %d) = %#x; want %#x", c.sum, c.bit, got, c.want)
		}
	}
}

func TestStepOfAllSums(t *testing.T) { // P3.1
	for n := range 1 << 16 {
		sum := uint16(n)
		for _, bit := range []byte{0, 1, 2, 254, 255} {
			want := sum * 2 % 0x8000
			if (sum&0x4000 != 0) != (bit != 0) {
				want ^= 0x4599
			}
			if got := Step(sum, bit); got != want {
				t.Fatalf("Step(%#x, %d) = %#x; want %#x", sum, bit, got, want)
			}
		}
	}
}

func TestSum(t *testing.T) { // P3.1, and the chapter's example
	var digits []byte
	for _, c := range "123456789" {
		digits = append(digits, numbered(int(c), 8)...)
	}
	for _, c := range []struct {
		b    []byte
		want uint16
	}{
		{nil, 0},
		{[]byte{}, 0},
		{[]byte{0}, 0},
		{[]byte{1}, 0x4599},
		{[]byte{2}, 0x4599},
		{[]byte{255}, 0x4599},
		{bitsOf("01"), 0x4599},
		{bitsOf("10"), 0x4EAB},
		{bitsOf("11"), 0x0B32},
		{[]byte{7, 9}, 0x0B32},
		{make([]byte, 200), 0},
		{digits, 0x059E}, // that of those nine letters is told wherever this sum is written of
		{raw(digits), 0x059E},
	} {
		if got := Sum(c.b); got != c.want {
			t.Errorf("Sum(%v) = %#x; want %#x", c.b, got, c.want)
		}
	}
	for _, b := range samples() {
		if got, want := Sum(b), divided(b); got != want {
			t.Fatalf("Sum(%v) = %#x; want %#x", b, got, want)
		}
		if got, want := Sum(raw(b)), divided(b); got != want {
			t.Fatalf("Sum(%v) = %#x; want %#x", raw(b), got, want)
		}
	}
}

func TestSumIsStepByStep(t *testing.T) { // P3.1
	for _, b := range samples() {
		sum := uint16(0)
		for at, v := range raw(b) {
			sum = Step(sum, v)
			if got := Sum(b[:at+1]); got != sum {
				t.Fatalf("Sum(%v) = %#x; step by step %#x", b[:at+1], got, sum)
			}
		}
	}
}

func TestBits(t *testing.T) { // P3.1
	for _, c := range []struct {
		sum  uint16
		want string
	}{
		{0, "000000000000000"},
		{1, "000000000000001"},
		{0x4000, "100000000000000"},
		{0x4599, "100010110011001"},
		{0x7FFF, "111111111111111"},
		{0x8000, "000000000000000"},
		{0xC599, "100010110011001"},
		{0xFFFF, "111111111111111"},
	} {
		if got := Bits(c.sum); !bytes.Equal(got, bitsOf(c.want)) {
			t.Errorf("Bits(%#x) = %v; want %s", c.sum, got, c.want)
		}
	}
	for n := range 1 << 16 {
		if got := Bits(uint16(n)); !bytes.Equal(got, numbered(n, 15)) {
			t.Fatalf("Bits(%#x) = %v", n, got)
		}
	}
}

func TestSeal(t *testing.T) { // P3.2
	for _, c := range []struct {
		b    []byte
		want string
	}{
		{nil, "000000000000000"},
		{[]byte{}, "000000000000000"},
		{[]byte{0}, "0000000000000000"},
		{[]byte{1}, "1100010110011001"},
		{[]byte{200}, "1100010110011001"},
		{[]byte{0, 3, 2}, "011000101100110010"},
	} {
		if got := Seal(c.b); !bytes.Equal(got, bitsOf(c.want)) {
			t.Errorf("Seal(%v) = %v; want %s", c.b, got, c.want)
		}
	}
	for _, b := range samples() {
		want := append(slices.Clone(b), numbered(int(divided(b)), 15)...)
		if got := Seal(raw(b)); !bytes.Equal(got, want) {
			t.Fatalf("Seal(%v) = %v; want %v", raw(b), got, want)
		}
	}
}

func TestWhole(t *testing.T) { // P3.2
	for n := range 15 {
		for _, b := range [][]byte{make([]byte, n), bytes.Repeat([]byte{1}, n)} {
			if Whole(b) {
				t.Errorf("Whole(%v), of %d bits", b, n)
			}
		}
	}
	for _, c := range []struct {
		b    []byte
		want bool
	}{
		{nil, false},
		{make([]byte, 15), true},
		{bitsOf("000000000000001"), false},
		{bitsOf("100000000000000"), false},
		{bitsOf("111111111111111"), false},
		{make([]byte, 16), true},
		{bitsOf("1100010110011001"), true},
		{raw(bitsOf("1100010110011001")), true},
		{bitsOf("0100010110011001"), false},
		{bitsOf("1100010110011000"), false},
		{bitsOf("01100010110011001"), true},
		{bitsOf("11000101100110010"), true},
		{bitsOf("11000101100110011"), false},
	} {
		if got := Whole(c.b); got != c.want {
			t.Errorf("Whole(%v) = %v", c.b, got)
		}
	}
	chance := rand.New(rand.NewSource(4))
	for n := range 40 {
		for range 50 {
			b := append(chances(chance, n), numbered(chance.Intn(1<<15), 15)...)
			if chance.Intn(2) == 0 {
				b = Seal(b[:n])
			}
			want := bytes.Equal(b[n:], numbered(int(divided(b[:n])), 15))
			if got := Whole(raw(b)); got != want {
				t.Fatalf("Whole(%v) = %v", raw(b), got)
			}
		}
	}
}

func TestSealedIsWhole(t *testing.T) { // P3.3
	for _, b := range samples() {
		sealed := Seal(raw(b))
		if !Whole(sealed) || Sum(sealed) != 0 {
			t.Fatalf("Seal(%v) = %v: Whole %v, Sum %#x", b, sealed, Whole(sealed), Sum(sealed))
		}
	}
	for n := range 1 << 17 { // of all strings of 17 bits, as many as there are of two ahead of a sum
		b := numbered(n, 17)
		if Whole(b) != (Sum(b) == 0) {
			t.Fatalf("Whole(%v) = %v, Sum %#x", b, Whole(b), Sum(b))
		}
	}
}

func TestSumIsLinear(t *testing.T) { // P3.4
	chance := rand.New(rand.NewSource(5))
	for n := range 120 {
		for range 20 {
			a, b := chances(chance, n), chances(chance, n)
			if got, want := Sum(others(a, b)), Sum(a)^Sum(b); got != want {
				t.Fatalf("Sum of what is unlike in %v and %v = %#x; want %#x", a, b, got, want)
			}
		}
	}
}

func TestBurstsAreFound(t *testing.T) { // P3.5
	chance := rand.New(rand.NewSource(6))
	for _, n := range []int{0, 1, 7, 83} {
		sealed := Seal(chances(chance, n))
		for at := range sealed {
			for long := 1; long <= min(15, len(sealed)-at); long++ {
				for range 12 {
					mask := make([]byte, len(sealed))
					copy(mask[at:at+long], chances(chance, long))
					mask[at], mask[at+long-1] = 1, 1
					if Whole(others(sealed, mask)) {
						t.Fatalf("%v is still whole with other bits where %v has 1", sealed, mask)
					}
				}
			}
		}
	}
}

func TestJustTheseAreMissed(t *testing.T) { // P3.5 and P3.6: of all changes of 19 bits those are missed that are sealed themselves
	sealed := Seal(bitsOf("1011"))
	missed := 0
	for n := 1; n < 1<<19; n++ {
		if !Whole(others(sealed, numbered(n, 19))) {
			continue
		}
		missed++
		if long := bits.Len(uint(n)) - bits.TrailingZeros(uint(n)); long <= 15 {
			t.Errorf("a burst of %d bits is missed: %019b", long, n)
		}
		if bits.OnesCount(uint(n))%2 == 1 {
			t.Errorf("an odd number of bits is missed: %019b", n)
		}
	}
	if missed != 15 {
		t.Errorf("%d changes are missed; want 15", missed)
	}
}

func TestOddNumbersAreFound(t *testing.T) { // P3.6
	chance := rand.New(rand.NewSource(7))
	for _, n := range []int{0, 1, 19, 83, 103} {
		sealed := Seal(chances(chance, n))
		for range 2000 {
			mask := chances(chance, len(sealed))
			if bytes.Count(mask, []byte{1})%2 == 0 {
				mask[chance.Intn(len(mask))] ^= 1
			}
			if Whole(others(sealed, mask)) {
				t.Fatalf("%v is still whole with other bits where %v has 1", sealed, mask)
			}
		}
	}
}

func TestNothingHandedInIsChangedOrKept(t *testing.T) { // P3 of the whole
	for name, call := range map[string]func(b []byte) []byte{
		"Sum":   func(b []byte) []byte { Sum(b); return nil },
		"Seal":  Seal,
		"Whole": func(b []byte) []byte { Whole(b); return nil },
	} {
		for _, b := range samples() {
			whole := append(raw(b), bytes.Repeat([]byte{77}, 40)...)
			before := slices.Clone(whole)
			answer := call(whole[:len(b)])
			for i := range answer[:cap(answer)] {
				answer[:cap(answer)][i] ^= 0xFF // what is answered is the caller's to write to
			}
			if !bytes.Equal(whole, before) {
				t.Fatalf("%s changed or handed out what it was given: %v, now %v", name, before, whole)
			}
		}
	}
}

func TestAnswersAreNew(t *testing.T) { // P3 and P5 of the whole
	for _, call := range []func() []byte{
		func() []byte { return Bits(0x4599) },
		func() []byte { return Seal([]byte{1}) },
	} {
		first := call()
		want := slices.Clone(first)
		for i := range first {
			first[i] = 9
		}
		if got := call(); !bytes.Equal(got, want) {
			t.Errorf("%v, behind a write to what was answered ahead; want %v", got, want)
		}
	}
}
