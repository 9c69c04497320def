package trace_test

import (
	"slices"
	"testing"

	"bellbuoy/api"
	"bellbuoy/trace"
)

// bytesOf are a trace's, of so many entries.
func bytesOf(many byte, l ...[]byte) []byte {
	return append([]byte{'B', 'B', 'T', '1', 0, 0, 0, many}, slices.Concat(l...)...)
}

// decodes fails unless bytes are a trace of just these entries, and it is written so.
func decodes(t *testing.T, b []byte, want []api.Entry) {
	t.Helper()
	r, fault := trace.Decode(b)
	if r == nil || fault != (api.Fault{}) {
		t.Fatalf("Decode(%v): %v", b, fault)
	}
	has(t, r, want)
	if back := trace.Encode(r); !slices.Equal(back, b) {
		t.Fatalf("Encode of %v = %v; want %v", want, back, b)
	}
}

// faults fails unless bytes are refused with that error, at that place.
func faults(t *testing.T, b []byte, errno api.Errno, at int) {
	t.Helper()
	if r, fault := trace.Decode(b); r != nil || fault != (api.Fault{Errno: errno, At: at}) {
		t.Fatalf("Decode(%v) = %v, %v; want %d at %d", b, r, fault, errno, at)
	}
}

// Entries that can be, at bit 5, and one at bit 6.
var (
	begins = []byte{0, 0, 0, 5, 1, 1, 0}
	sends  = []byte{0, 0, 0, 5, 2, 4, 0, 0, 0, 0, 1, 0x23, 1, 10}
	gets   = []byte{0, 0, 0, 6, 2, 8, 3, 1, 0x1f, 0xff, 0xff, 0xff, 8, 1, 2, 3, 4, 5, 6, 7, 255}
)

// with is bytes of which one is another.
func with(b []byte, at int, v byte) []byte {
	c := slices.Clone(b)
	c[at] = v
	return c
}

func TestBytes(t *testing.T) { // P31.2, P31.3, example 1
	decodes(t, bytesOf(0), nil)
	decodes(t, bytesOf(1, begins), entries(5, began(1)))
	decodes(t, bytesOf(2, begins, sends), entries(5, began(1), sent(2, plain)))
	both := got(2, wide)
	both.Happen.Bad = api.FormBad
	decodes(t, bytesOf(3, begins, sends, gets), append(entries(5, began(1), sent(2, plain)), entries(6, both)...))
	decodes(t, bytesOf(1, []byte{0x7f, 0xff, 0xff, 0xff, 31, 2, 6}), entries(last, api.Note{Node: 31, Happen: api.Happen{Lost: true, Bad: api.Overloads}}))
	decodes(t, bytesOf(1, []byte{1, 2, 3, 4, 0, 3, 0}), entries(0x01020304, api.Note{Happen: api.Happen{Began: true, Lost: true}}))
	decodes(t, bytesOf(1, []byte{0, 0, 0, 0, 0, 7, 0, 0, 0, 0, 0, 0, 0}), entries(0, api.Note{Happen: api.Happen{Began: true, Lost: true, Sent: true}}))
	decodes(t, bytesOf(1, []byte{0, 0, 0, 0, 9, 8, 0, 3, 1, 2, 3, 4, 0}), entries(0, got(9, api.Frame{Id: api.Ident{Ext: true, N: 0x01020304}, Remote: true})))
	decodes(t, bytesOf(1, []byte{0, 0, 0, 0, 9, 4, 0, 2, 0, 0, 7, 0xff, 3, 0, 0, 0}), entries(0, sent(9, asking))) // one that asks has Len bytes of Data, too
	for b := api.BitError; b <= api.Overloads; b++ {
		decodes(t, bytesOf(1, []byte{0, 0, 0, 5, 0, 0, byte(b)}), entries(5, bad(0, b)))
	}
}

func TestMany(t *testing.T) { // P31.2: how many there are, in four bytes
	r := trace.New()
	for at := range 0x0203 {
		adds(t, r, at, began(0))
	}
	if b := trace.Encode(r); string(b[:8]) != "BBT1\x00\x00\x02\x03" || len(b) != 8+7*0x0203 {
		t.Errorf("%d bytes, from %v on", len(b), b[:8])
	}
}

func TestDecodeHead(t *testing.T) { // P31.2: of the eight bytes ahead it is asked first whether they are there
	faults(t, nil, api.ErrLen, 0)
	for n := range 8 {
		faults(t, bytesOf(0)[:n], api.ErrLen, n)
		faults(t, []byte("bellbuoy")[:n], api.ErrLen, n)
	}
	for at := range 4 {
		for _, v := range []byte{0, 'b', 'B' + 1, 'T' + 1, '2', 255} {
			faults(t, with(bytesOf(0), at, v), api.ErrForm, 0)
			faults(t, with(bytesOf(2, begins, sends), at, v), api.ErrForm, 0)
			faults(t, with(bytesOf(9), at, v), api.ErrForm, 0)
			faults(t, append(with(bytesOf(0), at, v), 1), api.ErrForm, 0)
		}
	}
	faults(t, []byte("BBT2\xff\xff\xff\xff"), api.ErrForm, 0)
}

func TestDecodeFull(t *testing.T) { // P31.2: as soon as it is told how many there are
	for _, many := range []string{"\x00\x01\x00\x01", "\x00\x01\x01\x00", "\x00\x02\x00\x00", "\x01\x00\x00\x00", "\x7f\xff\xff\xff", "\x80\x00\x00\x00", "\xff\xff\xff\xff"} {
		faults(t, []byte("BBT1"+many), api.ErrFull, 4)
		faults(t, []byte("BBT1"+many+"\xff\xff\xff\xff\xff\xff\xff"), api.ErrFull, 4)
	}
	faults(t, []byte("BBT1\x00\x01\x00\x00"), api.ErrLen, 8)
	faults(t, []byte("BBT1\x00\x00\xff\xff"), api.ErrLen, 8)
	b := []byte("BBT1\x00\x01\x00\x01")
	for at := range api.MaxEntries + 1 {
		b = append(b, 0, byte(at>>16), byte(at>>8), byte(at), 0, 1, 0)
	}
	faults(t, b, api.ErrFull, 4)
	b[7] = 0
	faults(t, b, api.ErrLong, len(b)-7)
}

func TestDecodeCut(t *testing.T) { // P31.2, P31.3
	asks := []byte{0, 0, 0, 7, 9, 4, 0, 2, 0, 0, 7, 0xff, 3, 0, 0, 0}
	whole := bytesOf(4, begins, sends, gets, asks)
	decodes(t, whole, must(t, whole))
	for n := range len(whole) {
		faults(t, whole[:n], api.ErrLen, n)
	}
	for n := 1; n < 30; n++ {
		faults(t, append(slices.Clone(whole), make([]byte, n)...), api.ErrLong, len(whole))
	}
	for many := byte(5); many < 10; many++ {
		faults(t, with(whole, 7, many), api.ErrLen, len(whole))
	}
	for many, at := range []int{8, 15, 29, 50} {
		faults(t, with(whole, 7, byte(many)), api.ErrLong, at)
	}
}

// must are the entries of bytes that are a trace's.
func must(t *testing.T, b []byte) []api.Entry {
	t.Helper()
	r, fault := trace.Decode(b)
	if fault != (api.Fault{}) {
		t.Fatalf("Decode(%v): %v", b, fault)
	}
	return r.All()
}

func TestDecodeRange(t *testing.T) { // P31.2: a bit that is none, or less than the last one's
	for _, high := range []byte{0x80, 0x81, 0xff} {
		faults(t, bytesOf(1, with(begins, 0, high)), api.ErrRange, 8)
		faults(t, bytesOf(2, begins, with(sends, 0, high)), api.ErrRange, 15)
		faults(t, bytesOf(1, with(with(begins, 0, high), 5, 16)), api.ErrRange, 8)
		faults(t, bytesOf(1, with(with(begins, 0, high), 4, 32)), api.ErrRange, 8)
		faults(t, bytesOf(1, with(with(begins, 0, high), 5, 16)[:6]), api.ErrRange, 8) // bytes behind it are not asked for
		faults(t, bytesOf(1, with(begins, 0, high)[:6]), api.ErrLen, 14)
	}
	faults(t, bytesOf(2, gets, begins), api.ErrRange, 8+len(gets))
	faults(t, bytesOf(2, gets, with(begins, 5, 0)), api.ErrRange, 8+len(gets))
	faults(t, bytesOf(3, gets, begins), api.ErrRange, 8+len(gets)) // that of the first entry that can't be, and not of what is missing behind it
	faults(t, append(bytesOf(2, gets, begins), 1), api.ErrRange, 8+len(gets))
}

func TestDecodeKind(t *testing.T) { // P31.2: bytes that can't be, and notes
	for _, x := range []struct {
		entry []byte
		at    int
		v     byte
		asked int // of how many bytes it is asked whether they are there
	}{
		{begins, 4, 32, 7},
		{begins, 4, 255, 7},
		{begins, 5, 0, 7}, // nothing happened
		{begins, 5, 16, 6},
		{begins, 5, 17, 6},
		{begins, 5, 255, 6},
		{begins, 6, 7, 7},
		{begins, 6, 255, 7},
		{sends, 5, 12, 14}, // Sent and Got
		{sends, 5, 15, 14},
		{sends, 5, 20, 6},
		{sends, 6, 7, 14},
		{sends, 7, 4, 8},
		{sends, 7, 5, 8},
		{sends, 7, 255, 8},
		{sends, 7, 2, 14}, // one that is Remote has no bytes but 0
		{sends, 8, 1, 14}, // what is above 11 bits
		{sends, 10, 8, 14},
		{gets, 8, 0x20, 21}, // what is above 29 bits
		{gets, 8, 0xff, 21},
		{gets, 7, 0, 21},
		{gets, 12, 9, 13},
		{gets, 12, 255, 13},
		{gets, 12, 128, 13},
	} {
		wrong := with(x.entry, x.at, x.v)
		faults(t, bytesOf(1, wrong), api.ErrKind, 8)
		faults(t, bytesOf(2, wrong, begins), api.ErrKind, 8)
		faults(t, bytesOf(2, with(begins, 3, 4), wrong), api.ErrKind, 15)
		faults(t, append(bytesOf(1, wrong), 1, 2, 3), api.ErrKind, 8)
		for n := range len(wrong) {
			if n < x.asked {
				faults(t, bytesOf(1, wrong[:n]), api.ErrLen, 8+n)
			} else {
				faults(t, bytesOf(1, wrong[:n]), api.ErrKind, 8)
			}
		}
	}
	faults(t, bytesOf(2, begins, with(with(begins, 5, 16), 4, 0)), api.ErrKind, 15) // ahead of ErrTwice
	faults(t, bytesOf(2, begins, with(begins, 6, 7)), api.ErrKind, 15)
}

func TestDecodeTwice(t *testing.T) { // P31.2: the same bit, and a node that is not above
	faults(t, bytesOf(2, begins, begins), api.ErrTwice, 15)
	faults(t, bytesOf(2, begins, with(sends, 4, 1)), api.ErrTwice, 15)
	faults(t, bytesOf(2, begins, with(sends, 4, 0)), api.ErrTwice, 15)
	faults(t, bytesOf(2, sends, begins), api.ErrTwice, 22)
	faults(t, bytesOf(3, begins, sends, sends), api.ErrTwice, 29)
	faults(t, bytesOf(3, begins, sends, begins), api.ErrTwice, 29)
	faults(t, append(bytesOf(2, begins, begins), 0), api.ErrTwice, 15)
	faults(t, bytesOf(3, begins, begins), api.ErrTwice, 15)
	faults(t, bytesOf(2, begins, begins[:6]), api.ErrLen, 21)
	decodes(t, bytesOf(2, begins, with(begins, 4, 31)), entries(5, began(1), began(31)))
	decodes(t, bytesOf(2, begins, with(begins, 3, 6)), append(entries(5, began(1)), entries(6, began(1))...))
	decodes(t, bytesOf(2, with(begins, 3, 0), with(with(begins, 3, 0), 4, 2)), entries(0, began(1), began(2)))
	decodes(t, bytesOf(1, with(with(begins, 3, 0), 4, 0)), entries(0, began(0))) // the first one is behind nothing
}
