package trace

import "bellbuoy/api"

// magic is what a trace's bytes begin with; behind it stands how many entries there are, and behind head the first one of them.
const (
	magic   = "BBT1"
	countAt = len(magic)
	head    = countAt + wide
)

// How many bytes a great number has, such as a bit, and a small one, such as a node.
const (
	wide   = 4
	narrow = 1
)

// What is so of a note is told by the sum of these; noKinds is the least number that is no such sum.
const (
	began = 1 << iota
	lost
	sent
	got
	noKinds
)

// Of which sort a frame is, is told by the sum of these; noSorts is the least number that is no such sum.
const (
	ext = 1 << iota
	remote
	noSorts
)

// Encode is a trace's bytes.
func Encode(t *Trace) []byte {
	all := t.All()
	b := putNumber([]byte(magic), wide, len(all))
	for _, e := range all {
		b = putEntry(b, e)
	}
	return b
}

// Decode is the way back. What is wrong leaves the reader as a panic, wherever it is found.
func Decode(b []byte) (_ *Trace, fault api.Fault) {
	defer func() {
		switch x := recover().(type) {
		case nil:
		case api.Fault:
			fault = x
		default:
			panic(x)
		}
	}()
	return decoded(b), api.Fault{}
}

// putNumber puts a number behind bytes, its highest byte first.
func putNumber(b []byte, width, n int) []byte {
	for k := width - 1; k >= 0; k-- {
		b = append(b, byte(n>>(8*k)))
	}
	return b
}

func putEntry(b []byte, e api.Entry) []byte {
	h := e.Note.Happen
	b = putNumber(b, wide, e.At)
	b = putNumber(b, narrow, e.Note.Node)
	b = putNumber(b, narrow, flag(h.Began, began)+flag(h.Lost, lost)+flag(h.Sent, sent)+flag(h.Got, got))
	b = putNumber(b, narrow, int(h.Bad))
	if h.Sent || h.Got {
		b = putFrame(b, h.Frame)
	}
	return b
}

// putFrame puts a frame behind bytes; one that is Remote has Len bytes, too: all 0.
func putFrame(b []byte, f api.Frame) []byte {
	b = putNumber(b, narrow, flag(f.Id.Ext, ext)+flag(f.Remote, remote))
	b = putNumber(b, wide, int(f.Id.N))
	b = putNumber(b, narrow, f.Len)
	return append(b, f.Data[:f.Len]...)
}

// flag is what is put into a sum for what is so, or not.
func flag(so bool, worth int) int {
	if so {
		return worth
	}
	return 0
}

// decoded is the trace of bytes. It is read part by part: of the bytes ahead of the entries, and of each entry, it is asked first whether they are all there.
func decoded(b []byte) *Trace {
	if len(b) < head {
		fail(api.ErrLen, len(b))
	}
	if string(b[:countAt]) != magic {
		fail(api.ErrForm, 0)
	}
	r := &reader{bytes: b, at: countAt}
	many := r.number(wide)
	if many > api.MaxEntries {
		fail(api.ErrFull, countAt)
	}
	t := New()
	for range many {
		t.entries = append(t.entries, r.next(t.last()))
	}
	if r.at < len(b) {
		fail(api.ErrLong, r.at)
	}
	return t
}

// fail leaves the reader.
func fail(errno api.Errno, at int) {
	panic(api.Fault{Errno: errno, At: at})
}

// reader reads bytes from the front on.
type reader struct {
	bytes []byte
	at    int
}

// next is the entry that comes next, behind that one.
func (r *reader) next(last api.Entry) api.Entry {
	from := r.at
	e, ok := r.entry()
	switch {
	case !isBit(e.At) || e.At < last.At:
		fail(api.ErrRange, from)
	case !ok || !Right(e.Note):
		fail(api.ErrKind, from)
	case e.At == last.At && e.Note.Node <= last.Note.Node:
		fail(api.ErrTwice, from)
	}
	return e
}

// entry is what stands there; false, if a byte of it tells what can't be: those behind it are not asked for, then.
func (r *reader) entry() (api.Entry, bool) {
	var e api.Entry
	e.At = r.number(wide)
	e.Note.Node = r.number(narrow)
	kinds := r.number(narrow)
	if kinds >= noKinds {
		return e, false
	}
	h := &e.Note.Happen
	h.Began, h.Lost, h.Sent, h.Got = kinds&began != 0, kinds&lost != 0, kinds&sent != 0, kinds&got != 0
	h.Bad = api.Bad(r.number(narrow))
	if !h.Sent && !h.Got {
		return e, true
	}
	f, ok := r.frame()
	h.Frame = f
	return e, ok
}

func (r *reader) frame() (api.Frame, bool) {
	var f api.Frame
	sorts := r.number(narrow)
	if sorts >= noSorts {
		return f, false
	}
	f.Id.Ext, f.Remote = sorts&ext != 0, sorts&remote != 0
	f.Id.N = uint32(r.number(wide))
	f.Len = r.number(narrow)
	if f.Len > len(f.Data) {
		return f, false
	}
	copy(f.Data[:], r.take(f.Len))
	return f, true
}

// number is one of so many bytes.
func (r *reader) number(width int) int {
	n := 0
	for _, v := range r.take(width) {
		n = n<<8 | int(v)
	}
	return n
}

func (r *reader) take(n int) []byte {
	if len(r.bytes)-r.at < n {
		fail(api.ErrLen, len(r.bytes))
	}
	r.at += n
	return r.bytes[r.at-n : r.at]
}
