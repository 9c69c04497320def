package trace_test

import (
	"math"
	"slices"
	"testing"

	"bellbuoy/api"
	"bellbuoy/trace"
)

// last is the last bit there is.
const last = api.MaxBits - 1

// plain is a frame like others, wide one of the other sort, asking one that asks for bytes.
var (
	plain  = api.Frame{Id: api.Ident{N: 0x123}, Len: 1, Data: [8]byte{10}}
	wide   = api.Frame{Id: api.Ident{Ext: true, N: 0x1fffffff}, Len: 8, Data: [8]byte{1, 2, 3, 4, 5, 6, 7, 255}}
	asking = api.Frame{Id: api.Ident{N: 0x7ff}, Remote: true, Len: 3}
)

// noFrames are frames that can't be.
var noFrames = []api.Frame{
	{Id: api.Ident{N: 2048}},
	{Id: api.Ident{Ext: true, N: 1 << 29}},
	{Len: -1},
	{Len: 9},
	{Len: 1, Data: [8]byte{0, 1}},
	{Remote: true, Len: 1, Data: [8]byte{1}},
}

func began(node int) api.Note {
	return api.Note{Node: node, Happen: api.Happen{Began: true}}
}

func bad(node int, b api.Bad) api.Note {
	return api.Note{Node: node, Happen: api.Happen{Bad: b}}
}

func sent(node int, f api.Frame) api.Note {
	return api.Note{Node: node, Happen: api.Happen{Sent: true, Frame: f}}
}

func got(node int, f api.Frame) api.Note {
	return api.Note{Node: node, Happen: api.Happen{Got: true, Frame: f}}
}

// entries are those of notes that happened at a bit.
func entries(at int, l ...api.Note) []api.Entry {
	var list []api.Entry
	for _, n := range l {
		list = append(list, api.Entry{At: at, Note: n})
	}
	return list
}

// adds puts notes behind a trace; it fails if they are refused.
func adds(t *testing.T, r *trace.Trace, at int, l ...api.Note) {
	t.Helper()
	if errno := r.Add(at, l...); errno != api.OK {
		t.Fatalf("Add(%d, %v) = %d", at, l, errno)
	}
}

// refuses fails unless notes are refused with that error, and the trace stays as it was.
func refuses(t *testing.T, r *trace.Trace, at int, want api.Errno, l ...api.Note) {
	t.Helper()
	before := r.All()
	if errno := r.Add(at, l...); errno != want {
		t.Fatalf("Add(%d, %v) = %d; want %d", at, l, errno, want)
	}
	has(t, r, before)
}

// has fails unless a trace is just these entries.
func has(t *testing.T, r *trace.Trace, want []api.Entry) {
	t.Helper()
	if all := r.All(); !slices.Equal(all, want) {
		t.Fatalf("All() = %v; want %v", all, want)
	}
}

// some is a trace of a few things.
func some(t *testing.T) *trace.Trace {
	t.Helper()
	r := trace.New()
	adds(t, r, 0, began(0), bad(1, api.CrcBad))
	adds(t, r, 7, got(0, plain), got(2, plain), bad(31, api.Overloads))
	adds(t, r, 8, sent(1, plain))
	adds(t, r, 8, []api.Note{}...)
	adds(t, r, 90, got(1, wide), bad(2, api.CrcBad))
	adds(t, r, last, sent(0, asking), sent(1, wide), bad(2, api.CrcBad))
	return r
}

// someEntries are those of some.
func someEntries() []api.Entry {
	return slices.Concat(
		entries(0, began(0), bad(1, api.CrcBad)),
		entries(7, got(0, plain), got(2, plain), bad(31, api.Overloads)),
		entries(8, sent(1, plain)),
		entries(90, got(1, wide), bad(2, api.CrcBad)),
		entries(last, sent(0, asking), sent(1, wide), bad(2, api.CrcBad)),
	)
}

func TestRight(t *testing.T) { // P31.1: all kinds, with each Bad, and each sort of frame
	frames := append([]api.Frame{{}, plain, wide, asking}, noFrames...)
	for kinds := range 16 {
		for b := api.Bad(-1); b <= 8; b++ {
			for k, f := range frames {
				h := api.Happen{Began: kinds&1 != 0, Lost: kinds&2 != 0, Sent: kinds&4 != 0, Got: kinds&8 != 0, Bad: b, Frame: f}
				want := b >= 0 && b <= 6 && (kinds > 0 || b > 0)
				switch kinds >> 2 {
				case 0:
					want = want && k == 0
				case 3:
					want = false
				default:
					want = want && k < 4
				}
				for _, node := range []int{0, 1, 31} {
					if n := (api.Note{Node: node, Happen: h}); trace.Right(n) != want {
						t.Fatalf("Right(%v) = %v", n, !want)
					}
				}
				for _, node := range []int{-1, 32, 33, 256, 1 << 32, math.MinInt, math.MaxInt} {
					if n := (api.Note{Node: node, Happen: h}); trace.Right(n) {
						t.Fatalf("Right(%v)", n)
					}
				}
			}
		}
	}
	for _, b := range []api.Bad{math.MinInt, math.MaxInt, 256, 1 << 32} {
		if trace.Right(bad(0, b)) {
			t.Errorf("Right of Bad %d", b)
		}
	}
}

func TestNew(t *testing.T) { // P31.1
	for _, r := range []*trace.Trace{trace.New(), {}} {
		empty(t, r)
		adds(t, r, 5)
		empty(t, r)
		adds(t, r, 3, began(4)) // what puts nothing behind leaves no bit there either
		has(t, r, entries(3, began(4)))
	}
}

// empty fails unless there is nothing in a trace.
func empty(t *testing.T, r *trace.Trace) {
	t.Helper()
	if len(r.All()) != 0 || len(r.Of(0)) != 0 || len(r.Between(0, api.MaxBits)) != 0 || len(r.Frames(0, true)) != 0 || len(r.Frames(0, false)) != 0 {
		t.Errorf("%v, %v, %v, %v, %v of nothing", r.All(), r.Of(0), r.Between(0, api.MaxBits), r.Frames(0, true), r.Frames(0, false))
	}
	for b := api.NoBad; b <= api.Overloads; b++ {
		if r.Bad(0, b) != 0 {
			t.Errorf("Bad(0, %d) = %d of nothing", b, r.Bad(0, b))
		}
	}
}

func TestNil(t *testing.T) { // P31.1, P31.2
	var r *trace.Trace
	empty(t, r)
	for _, at := range []int{0, 1, last, -1, api.MaxBits} {
		for _, l := range [][]api.Note{nil, {began(0)}, {began(1), began(0)}, {began(32)}} {
			if errno := r.Add(at, l...); errno != api.ErrNone {
				t.Errorf("Add(%d, %v) = %d of none", at, l, errno)
			}
		}
	}
	empty(t, r)
	if b := trace.Encode(r); string(b) != "BBT1\x00\x00\x00\x00" {
		t.Errorf("Encode(nil) = %v", b)
	}
}

func TestAdd(t *testing.T) { // P31.1
	has(t, some(t), someEntries())
	r := trace.New()
	var all []api.Note
	for node := range api.MaxNodes {
		all = append(all, began(node))
	}
	adds(t, r, last, all...)
	has(t, r, entries(last, all...))
}

func TestAddWrong(t *testing.T) { // P31.1, P31.5: each error, and of several ones the one that is named first
	none := []int{-1, -2, api.MaxBits, api.MaxBits + 1, 1 << 40, math.MinInt, math.MaxInt}
	wrong := api.Note{Node: 3}
	for _, at := range none {
		refuses(t, trace.New(), at, api.ErrRange)
		refuses(t, trace.New(), at, api.ErrRange, began(0))
		refuses(t, some(t), at, api.ErrRange, wrong, wrong)
	}
	r := trace.New()
	adds(t, r, 100, began(3), began(5))
	for _, at := range []int{0, 1, 98, 99} {
		refuses(t, r, at, api.ErrRange)
		refuses(t, r, at, api.ErrRange, began(7))
		refuses(t, r, at, api.ErrRange, wrong, began(0), began(0))
	}
	for _, at := range []int{100, 101, last} {
		refuses(t, r, at, api.ErrKind, wrong)
		refuses(t, r, at, api.ErrKind, began(0), began(1), wrong)
		refuses(t, r, at, api.ErrKind, wrong, began(1), began(1))
		refuses(t, r, at, api.ErrKind, began(1), began(1), began(0), wrong)
		refuses(t, r, at, api.ErrKind, began(31), began(32))
		refuses(t, r, at, api.ErrTwice, began(1), began(1))
		refuses(t, r, at, api.ErrTwice, began(1), bad(1, api.CrcBad))
		refuses(t, r, at, api.ErrTwice, began(31), began(30))
		refuses(t, r, at, api.ErrTwice, began(0), began(6), began(7), began(6), began(8))
	}
	for _, node := range []int{0, 3, 4, 5, 6, 31} { // all that happened at a bit comes at once
		refuses(t, r, 100, api.ErrTwice, began(node))
	}
	adds(t, r, 100)
	adds(t, r, 101, began(0))
	refuses(t, r, 100, api.ErrRange)
	has(t, r, append(entries(100, began(3), began(5)), entries(101, began(0))...))
}

func TestAddFull(t *testing.T) { // P31.1, P31.5
	r := trace.New()
	at := 0
	for range api.MaxEntries/api.MaxNodes - 1 {
		var l []api.Note
		for node := range api.MaxNodes {
			l = append(l, bad(node, api.BitError))
		}
		adds(t, r, at, l...)
		at++
	}
	for range api.MaxNodes - 2 {
		adds(t, r, at, began(9))
		at++
	}
	refuses(t, r, at, api.ErrFull, began(0), began(1), began(2))
	adds(t, r, at, began(0), began(1))
	if n := len(r.All()); n != api.MaxEntries {
		t.Fatalf("%d entries", n)
	}
	refuses(t, r, at, api.ErrTwice, began(2))
	refuses(t, r, at+1, api.ErrFull, began(2))
	refuses(t, r, last, api.ErrFull, began(0), began(1))
	refuses(t, r, at+1, api.ErrKind, began(32))
	refuses(t, r, at+1, api.ErrTwice, began(2), began(2))
	refuses(t, r, at-1, api.ErrRange, began(2))
	adds(t, r, at)
	adds(t, r, at+1)
	back, fault := trace.Decode(trace.Encode(r))
	if fault != (api.Fault{}) {
		t.Fatalf("a full trace: %v", fault)
	}
	has(t, back, r.All())
}

func TestOf(t *testing.T) { // P31.1, P31.4
	r, all := some(t), someEntries()
	for node, want := range map[int][]api.Entry{
		0:           {all[0], all[2], all[8]},
		1:           {all[1], all[5], all[6], all[9]},
		2:           {all[3], all[7], all[10]},
		31:          {all[4]},
		3:           nil,
		30:          nil,
		-1:          nil,
		32:          nil,
		256:         nil,
		math.MinInt: nil,
		math.MaxInt: nil,
	} {
		if l := r.Of(node); !slices.Equal(l, want) {
			t.Errorf("Of(%d) = %v; want %v", node, l, want)
		}
	}
}

func TestBetween(t *testing.T) { // P31.1, P31.4: the bit ahead of which it ends is not of it
	r, all := some(t), someEntries()
	for _, x := range []struct {
		a, b int
		want []api.Entry
	}{
		{0, api.MaxBits, all},
		{math.MinInt, math.MaxInt, all},
		{0, last, all[:8]},
		{0, 0, nil},
		{0, 1, all[:2]},
		{1, 7, nil},
		{1, 8, all[2:5]},
		{7, 8, all[2:5]},
		{7, 9, all[2:6]},
		{8, 7, nil},
		{8, 8, nil},
		{8, 90, all[5:6]},
		{9, 91, all[6:8]},
		{last, last, nil},
		{last, api.MaxBits, all[8:]},
		{api.MaxBits, math.MaxInt, nil},
		{last, 0, nil},
		{-5, 0, nil},
		{math.MaxInt, math.MinInt, nil},
	} {
		if l := r.Between(x.a, x.b); !slices.Equal(l, x.want) {
			t.Errorf("Between(%d, %d) = %v; want %v", x.a, x.b, l, x.want)
		}
	}
}

func TestFrames(t *testing.T) { // P31.1
	r := some(t)
	for _, x := range []struct {
		node int
		sent bool
		want []api.Frame
	}{
		{0, true, []api.Frame{asking}},
		{0, false, []api.Frame{plain}},
		{1, true, []api.Frame{plain, wide}},
		{1, false, []api.Frame{wide}},
		{2, true, nil},
		{2, false, []api.Frame{plain}},
		{31, true, nil},
		{31, false, nil},
		{-1, true, nil},
		{32, false, nil},
	} {
		if l := r.Frames(x.node, x.sent); !slices.Equal(l, x.want) {
			t.Errorf("Frames(%d, %v) = %v; want %v", x.node, x.sent, l, x.want)
		}
	}
}

func TestBad(t *testing.T) { // P31.1: a note of which nothing is wrong has NoBad
	r := some(t)
	for _, x := range []struct {
		node int
		b    api.Bad
		want int
	}{
		{0, api.NoBad, 3},
		{0, api.CrcBad, 0},
		{1, api.CrcBad, 1},
		{1, api.NoBad, 3},
		{2, api.CrcBad, 2},
		{2, api.NoBad, 1},
		{2, api.BitError, 0},
		{31, api.Overloads, 1},
		{31, api.NoBad, 0},
		{5, api.NoBad, 0},
		{-1, api.CrcBad, 0},
		{32, api.NoBad, 0},
		{2, -1, 0},
		{2, 7, 0},
		{2, math.MaxInt, 0},
		{2, math.MinInt, 0},
	} {
		if n := r.Bad(x.node, x.b); n != x.want {
			t.Errorf("Bad(%d, %d) = %d; want %d", x.node, x.b, n, x.want)
		}
	}
}

func TestItsOwn(t *testing.T) { // P3: what is handed in is neither changed nor kept, what is answered is the caller's
	r := trace.New()
	notes := []api.Note{began(1), got(2, plain), began(9)}
	before := slices.Clone(notes)
	adds(t, r, 4, notes[:2]...)
	if !slices.Equal(notes, before) {
		t.Errorf("notes are %v; want %v", notes, before)
	}
	clear(notes)
	want := entries(4, before[:2]...)
	has(t, r, want)
	clear(r.All())
	clear(r.Of(1))
	clear(r.Between(0, 9))
	clear(r.Frames(2, false))
	clear(trace.Encode(r))
	has(t, r, want)
	all, of, between := r.All(), r.Of(2), r.Between(0, 9)
	adds(t, r, 5, began(0))
	adds(t, r, 6, began(0))
	if !slices.Equal(all, want) || !slices.Equal(of, want[1:]) || !slices.Equal(between, want) {
		t.Errorf("%v, %v, %v behind what was added", all, of, between)
	}
	bytes := append(trace.Encode(r), 7, 8, 9)
	kept := slices.Clone(bytes)
	u, fault := trace.Decode(bytes[:len(bytes)-3])
	if fault != (api.Fault{}) || !slices.Equal(bytes, kept) {
		t.Errorf("bytes are %v; want %v", bytes, kept)
	}
	clear(bytes)
	has(t, u, r.All())
	adds(t, u, 7, began(3))
	has(t, r, append(want, slices.Concat(entries(5, began(0)), entries(6, began(0)))...))
}
