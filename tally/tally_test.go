package tally_test

import (
	"math"
	"slices"
	"testing"

	"bellbuoy/api"
	"bellbuoy/stream"
	"bellbuoy/tally"
)

// Streams of each class; those of a table are these, not sorted by their Ids.
var (
	soon  = api.Stream{Id: 7, Node: 1, Class: api.EdfClass, Period: 1000, Deadline: 500, Bytes: 8}
	dated = api.Stream{Id: 3, Node: 2, Class: api.DmClass, Period: 2000, Deadline: 1500, Slot: 4, Bytes: 2}
	plain = api.Stream{Id: 2047, Class: api.FixedClass, Period: api.MaxSpan, Deadline: api.MaxSpan, Slot: 9}
	three = []api.Stream{soon, dated, plain}
)

// Times: the latest one at which a frame comes, and the latest one at which something becomes of it.
const (
	lastJob  = 1 << 50
	lastFate = 1 << 51
)

// made is a table of streams.
func made(t *testing.T, l ...api.Stream) *tally.Table {
	t.Helper()
	x, errno := tally.New(l)
	if x == nil || errno != api.OK {
		t.Fatalf("New(%v) = %v, %d", l, x, errno)
	}
	return x
}

// job is a frame of a stream that comes at some time.
func job(t *testing.T, s api.Stream, release int64) api.Job {
	t.Helper()
	j, errno := stream.Job(s, release)
	if errno != api.OK {
		t.Fatalf("Job(%v, %d): %d", s, release, errno)
	}
	return j
}

// takes has a frame of a stream come, ends has something become of one.
func takes(t *testing.T, x *tally.Table, tag int, s api.Stream, release int64) {
	t.Helper()
	if errno := x.Take(tag, job(t, s, release)); errno != api.OK {
		t.Fatalf("Take(%d) = %d", tag, errno)
	}
}

func ends(t *testing.T, x *tally.Table, tag int, f api.Fate, at int64) {
	t.Helper()
	if errno := x.Fate(api.Outcome{Tag: tag, Fate: f, At: at}); errno != api.OK {
		t.Fatalf("Fate(%d, %d, %d) = %d", tag, f, at, errno)
	}
}

// rowIs fails unless a stream's row is that one.
func rowIs(t *testing.T, x *tally.Table, want api.Row) {
	t.Helper()
	if r, ok := x.Row(want.Stream); r != want || !ok {
		t.Errorf("Row(%d) = %v, %v; want %v", want.Stream, r, ok, want)
	}
}

// totalIs fails unless all rows together are that one, of no stream.
func totalIs(t *testing.T, x *tally.Table, want api.Row) {
	t.Helper()
	want.Stream = -1
	if r := x.Total(); r != want {
		t.Errorf("Total() = %v; want %v", r, want)
	}
}

// told is all that a table tells.
type told struct {
	rows   [3]api.Row
	total  api.Row
	ratios [3][6]int
	worst  int
	missed bool
	open   []int
}

func tells(x *tally.Table) told {
	var a told
	for k, s := range three {
		a.rows[k], _ = x.Row(s.Id)
		for f := range a.ratios[k] {
			a.ratios[k][f] = x.Ratio(s.Id, api.Fate(f))
		}
	}
	a.total, a.open = x.Total(), x.Open()
	a.worst, a.missed = x.Worst()
	return a
}

func same(a, b told) bool {
	return a.rows == b.rows && a.total == b.total && a.ratios == b.ratios && a.worst == b.worst && a.missed == b.missed && slices.Equal(a.open, b.open)
}

// refuses fails unless what is done has that error, and changes nothing.
func refuses(t *testing.T, x *tally.Table, want api.Errno, what string, do func() api.Errno) {
	t.Helper()
	before := tells(x)
	if errno := do(); errno != want {
		t.Errorf("%s: %d; want %d", what, errno, want)
	}
	if after := tells(x); !same(before, after) {
		t.Errorf("%s: %v became %v", what, before, after)
	}
}

func TestNew(t *testing.T) { // P34.1: as stream.Check has it, with slots of a bit
	for _, l := range [][]api.Stream{nil, {}, {soon}, three} {
		x := made(t, l...)
		for _, s := range l {
			rowIs(t, x, api.Row{Stream: s.Id})
		}
		totalIs(t, x, api.Row{})
		if a := x.Open(); len(a) != 0 {
			t.Errorf("Open() = %v", a)
		}
		if id, ok := x.Worst(); id != 0 || ok {
			t.Errorf("Worst() = %d, %v", id, ok)
		}
	}
	short := soon
	short.Deadline = 1
	made(t, short) // a bit is a slot
	var many []api.Stream
	for id := range api.MaxStreams {
		s := plain
		s.Id = id
		many = append(many, s)
	}
	made(t, many...)
	changed := func(change func(s *api.Stream)) []api.Stream {
		s := dated
		change(&s)
		return []api.Stream{soon, s, {}}
	}
	for _, c := range []struct {
		l    []api.Stream
		want api.Errno
	}{
		{append(many, soon), api.ErrLong},
		{changed(func(s *api.Stream) { s.Class = 4 }), api.ErrKind},
		{changed(func(s *api.Stream) { s.Class = api.SyncClass }), api.ErrKind},
		{changed(func(s *api.Stream) { s.Id = 2048 }), api.ErrRange},
		{changed(func(s *api.Stream) { s.Deadline = s.Period + 1 }), api.ErrRange},
		{changed(func(s *api.Stream) { s.Bytes = 9 }), api.ErrLen},
		{[]api.Stream{soon, dated, soon}, api.ErrTwice},
	} {
		if x, errno := tally.New(c.l); x != nil || errno != c.want {
			t.Errorf("New(%v) = %v, %d; want %d", c.l, x, errno, c.want)
		}
	}
}

func TestTake(t *testing.T) { // P34.1, P34.4, example 1
	x := made(t, three...)
	takes(t, x, 5, soon, 10)
	rowIs(t, x, api.Row{Stream: 7, Taken: 1, Fates: [6]int{1}})
	rowIs(t, x, api.Row{Stream: 3})
	totalIs(t, x, api.Row{Taken: 1, Fates: [6]int{1}})
	for _, tag := range []int{0, -1, math.MinInt, math.MaxInt} { // any tag, and the same job as often as one likes
		takes(t, x, tag, soon, 10)
	}
	takes(t, x, 1, plain, 0)
	takes(t, x, 2, dated, lastJob)
	rowIs(t, x, api.Row{Stream: 7, Taken: 5, Fates: [6]int{5}})
	rowIs(t, x, api.Row{Stream: 2047, Taken: 1, Fates: [6]int{1}})
	rowIs(t, x, api.Row{Stream: 3, Taken: 1, Fates: [6]int{1}})
	totalIs(t, x, api.Row{Taken: 7, Fates: [6]int{7}})
	if a := x.Open(); !slices.Equal(a, []int{math.MinInt, -1, 0, 1, 2, 5, math.MaxInt}) {
		t.Errorf("Open() = %v", a)
	}
}

func TestTakeWrong(t *testing.T) { // P34.1, P34.4: each error, and of several ones the one that is named first
	x := made(t, three...)
	takes(t, x, 5, soon, 10)
	takes(t, x, 6, dated, 10)
	ends(t, x, 6, api.Delivered, 20)
	good := job(t, soon, 30)
	take := func(want api.Errno, tag int, j api.Job) {
		t.Helper()
		refuses(t, x, want, "Take", func() api.Errno { return x.Take(tag, j) })
	}
	for _, tag := range []int{5, 6} { // of one of which something became, too
		take(api.ErrTwice, tag, good)
		take(api.ErrTwice, tag, job(t, dated, 10))
		take(api.ErrTwice, tag, api.Job{})
		take(api.ErrTwice, tag, api.Job{Stream: 7})
	}
	for _, id := range []int{0, 1, -1, 2048, math.MinInt, math.MaxInt} {
		j := good
		j.Stream = id
		take(api.ErrNone, 9, j)
		take(api.ErrNone, 9, api.Job{Stream: id, Cost: -1})
	}
	for _, change := range []func(j *api.Job){
		func(j *api.Job) { j.Stream = 3 },
		func(j *api.Job) { j.Release++ },
		func(j *api.Job) { j.Release-- },
		func(j *api.Job) { j.Deadline++ },
		func(j *api.Job) { j.Deadline-- },
		func(j *api.Job) { j.Cost++ },
		func(j *api.Job) { j.Cost-- },
		func(j *api.Job) { j.Release, j.Deadline = -1, 499 },
		func(j *api.Job) { j.Release, j.Deadline = lastJob+1, lastJob+501 },
		func(j *api.Job) { j.Release = math.MaxInt64 },
		func(j *api.Job) { j.Release = math.MinInt64 },
		func(j *api.Job) { *j = api.Job{Stream: 7} },
	} {
		j := good
		change(&j)
		take(api.ErrKind, 9, j)
	}
	takes(t, x, 9, soon, 30)
}

func TestFate(t *testing.T) { // P34.1
	x := made(t, three...)
	for tag := range 12 {
		takes(t, x, tag, soon, int64(tag))
	}
	takes(t, x, 12, dated, 0)
	for k, f := range []api.Fate{api.Cancelled, api.Failed, api.Crashed, api.Missed} {
		ends(t, x, 2*k, f, 0)
		ends(t, x, 2*k+1, f, lastFate)
	}
	ends(t, x, 8, api.Cancelled, 9)
	ends(t, x, 12, api.Missed, 2000)
	rowIs(t, x, api.Row{Stream: 7, Taken: 12, Fates: [6]int{3, 0, 3, 2, 2, 2}})
	ends(t, x, 9, api.Delivered, 500)
	rowIs(t, x, api.Row{Stream: 7, Taken: 12, Fates: [6]int{2, 1, 3, 2, 2, 2}, Worst: -9, Best: -9})
	rowIs(t, x, api.Row{Stream: 3, Taken: 1, Fates: [6]int{5: 1}})
	totalIs(t, x, api.Row{Taken: 13, Fates: [6]int{2, 1, 3, 2, 2, 3}, Worst: -9, Best: -9})
	if a := x.Open(); !slices.Equal(a, []int{10, 11}) {
		t.Errorf("Open() = %v", a)
	}
}

func TestFateWrong(t *testing.T) { // P34.1, P34.4: each error, and of several ones the one that is named first
	x := made(t, three...)
	takes(t, x, 5, soon, 10)
	takes(t, x, 6, dated, 10)
	ends(t, x, 6, api.Delivered, 20)
	fate := func(want api.Errno, tag int, f api.Fate, at int64) {
		t.Helper()
		refuses(t, x, want, "Fate", func() api.Errno { return x.Fate(api.Outcome{Tag: tag, Fate: f, At: at}) })
	}
	noTimes := []int64{-1, lastFate + 1, math.MinInt64, math.MaxInt64}
	noFates := []api.Fate{api.Pending, -1, 6, math.MinInt, math.MaxInt}
	for _, tag := range []int{0, 7, -1, -5, math.MinInt, math.MaxInt} {
		fate(api.ErrNone, tag, api.Delivered, 20)
		fate(api.ErrNone, tag, api.Pending, -1)
	}
	for _, f := range noFates {
		fate(api.ErrKind, 5, f, 20)
		fate(api.ErrKind, 6, f, 20)
		fate(api.ErrKind, 6, f, -1)
	}
	for f := api.Delivered; f <= api.Missed; f++ {
		fate(api.ErrState, 6, f, 20)
		for _, at := range noTimes {
			fate(api.ErrState, 6, f, at)
			fate(api.ErrRange, 5, f, at)
		}
	}
	ends(t, x, 5, api.Missed, lastFate)
	fate(api.ErrState, 5, api.Missed, lastFate)
	fate(api.ErrState, 5, api.Delivered, 20)
}

func TestLate(t *testing.T) { // P34.1: by how much those that are Delivered are past their deadlines; the others don't count
	type end struct {
		release, at int64
	}
	for _, c := range []struct {
		ends        []end
		worst, best int64
	}{
		{[]end{{10, 400}}, -110, -110},
		{[]end{{10, 510}}, 0, 0},
		{[]end{{10, 520}}, 10, 10},
		{[]end{{10, 400}, {1000, 1400}}, -100, -110},
		{[]end{{1000, 1400}, {10, 400}}, -100, -110},
		{[]end{{10, 520}, {1000, 1510}, {2000, 2505}}, 10, 5}, // the least one is above 0
		{[]end{{10, 520}, {1000, 1400}, {2000, 2501}}, 10, -100},
		{[]end{{10, 510}, {1000, 1400}}, 0, -100},
		{[]end{{1000, 1400}, {10, 510}}, 0, -100},
		{[]end{{10, 510}, {1000, 1600}}, 100, 0},
		{[]end{{0, lastFate}}, lastFate - 500, lastFate - 500},
		{[]end{{lastJob, 0}}, -lastJob - 500, -lastJob - 500},
		{[]end{{lastJob, 0}, {0, lastFate}}, lastFate - 500, -lastJob - 500},
	} {
		x := made(t, three...)
		takes(t, x, -1, soon, 0) // waits, and others are not Delivered
		for f := api.Cancelled; f <= api.Missed; f++ {
			takes(t, x, -int(f), soon, 0)
			ends(t, x, -int(f), f, []int64{0, lastFate}[f%2])
		}
		for k, e := range c.ends {
			takes(t, x, k, soon, e.release)
			ends(t, x, k, api.Delivered, e.at)
		}
		n := len(c.ends)
		rowIs(t, x, api.Row{Stream: 7, Taken: 5 + n, Fates: [6]int{1, n, 1, 1, 1, 1}, Worst: c.worst, Best: c.best})
		totalIs(t, x, api.Row{Taken: 5 + n, Fates: [6]int{1, n, 1, 1, 1, 1}, Worst: c.worst, Best: c.best})
	}
}

func TestTotal(t *testing.T) { // P34.2, P34.3: just rows with one that is Delivered have a Worst, and a Best
	late := func(x *tally.Table, tag int, s api.Stream, by int64) {
		t.Helper()
		takes(t, x, tag, s, 5000)
		ends(t, x, tag, api.Delivered, 5000+s.Deadline+by)
	}
	for _, c := range []struct {
		a, b, c     []int64 // by how much those of each stream are late
		worst, best int64
	}{
		{nil, nil, nil, 0, 0},
		{nil, []int64{-7}, nil, -7, -7},
		{nil, []int64{7}, nil, 7, 7},
		{[]int64{7}, nil, []int64{9}, 9, 7},
		{[]int64{-7}, nil, []int64{-9}, -7, -9},
		{[]int64{9}, nil, []int64{7}, 9, 7},
		{[]int64{-9}, []int64{-5}, []int64{-7}, -5, -9},
		{[]int64{-9, 3}, []int64{-5}, []int64{-70, 2}, 3, -70},
		{[]int64{0}, []int64{5}, nil, 5, 0},
		{[]int64{0}, []int64{-5}, nil, 0, -5},
		{[]int64{-5}, []int64{0}, nil, 0, -5},
	} {
		x := made(t, three...)
		tag, n := 0, 0
		for k, l := range [][]int64{c.a, c.b, c.c} {
			for _, by := range l {
				late(x, tag, three[k], by)
				tag++
				n++
			}
			takes(t, x, 100+k, three[k], 0)
			takes(t, x, 200+k, three[k], 0)
			ends(t, x, 200+k, api.Missed, lastFate)
		}
		totalIs(t, x, api.Row{Taken: n + 6, Fates: [6]int{3, n, 0, 0, 0, 3}, Worst: c.worst, Best: c.best})
	}
}

func TestRow(t *testing.T) { // P34.2
	x := made(t, three...)
	takes(t, x, 5, soon, 10)
	for _, id := range []int{0, 1, -1, 2048, math.MinInt, math.MaxInt} {
		if r, ok := x.Row(id); r != (api.Row{}) || ok {
			t.Errorf("Row(%d) = %v, %v", id, r, ok)
		}
	}
	r, _ := x.Row(7)
	r.Taken, r.Fates[0] = 9, 9 // it is the caller's
	rowIs(t, x, api.Row{Stream: 7, Taken: 1, Fates: [6]int{1}})
}

func TestOpen(t *testing.T) { // P34.2
	x := made(t, three...)
	for k, tag := range []int{9, -4, 100, 0, 7, 8, 1 << 40} {
		takes(t, x, tag, three[k%3], 0)
	}
	ends(t, x, 8, api.Delivered, 0)
	ends(t, x, 0, api.Missed, 0)
	want := []int{-4, 7, 9, 100, 1 << 40}
	list := x.Open()
	if !slices.Equal(list, want) {
		t.Errorf("Open() = %v; want %v", list, want)
	}
	clear(list)
	if l := x.Open(); !slices.Equal(l, want) {
		t.Errorf("Open() = %v; want %v", l, want)
	}
}

func TestRatio(t *testing.T) { // P34.2: of those of which something became, rounded down
	x := made(t, three...)
	none := func(id int) {
		t.Helper()
		for _, f := range []api.Fate{0, 1, 2, 3, 4, 5, 6, -1, math.MinInt, math.MaxInt} {
			if n := x.Ratio(id, f); n != 0 {
				t.Errorf("Ratio(%d, %d) = %d", id, f, n)
			}
		}
	}
	for _, id := range []int{7, 3, 0, -1, 1, 2048, math.MinInt, math.MaxInt} {
		none(id)
	}
	for tag := range 20 {
		takes(t, x, tag, soon, 0)
	}
	none(7) // all of them wait
	for tag, f := range []api.Fate{1, 1, 1, 2, 4, 5, 5} {
		ends(t, x, tag, f, 0)
	}
	for f, want := range []int{0, 3000 / 7, 1000 / 7, 0, 1000 / 7, 2000 / 7} {
		if n := x.Ratio(7, api.Fate(f)); n != want {
			t.Errorf("Ratio(7, %d) = %d; want %d", f, n, want)
		}
	}
	for _, f := range []api.Fate{6, -1, math.MinInt, math.MaxInt} {
		if n := x.Ratio(7, f); n != 0 {
			t.Errorf("Ratio(7, %d) = %d", f, n)
		}
	}
	none(3)
	takes(t, x, 50, dated, 0)
	ends(t, x, 50, api.Failed, 0)
	if n := x.Ratio(3, api.Failed); n != 1000 {
		t.Errorf("Ratio(3, Failed) = %d", n)
	}
}

func TestWorst(t *testing.T) { // P34.2: of alike ones the least Id
	for _, c := range []struct {
		missed [3]int
		want   int
		ok     bool
	}{
		{[3]int{}, 0, false},
		{[3]int{1, 0, 0}, 7, true},
		{[3]int{0, 0, 1}, 2047, true},
		{[3]int{2, 1, 0}, 7, true},
		{[3]int{1, 2, 1}, 3, true},
		{[3]int{1, 1, 1}, 3, true},
		{[3]int{2, 1, 2}, 7, true},
		{[3]int{0, 3, 3}, 3, true},
		{[3]int{2, 2, 3}, 2047, true},
	} {
		x := made(t, three...)
		tag := 0
		for k, n := range c.missed {
			for f := api.Delivered; f <= api.Crashed; f++ { // others don't count
				for range k + 1 {
					takes(t, x, tag, three[k], 0)
					ends(t, x, tag, f, 0)
					tag++
				}
			}
			for range n {
				takes(t, x, tag, three[k], 0)
				ends(t, x, tag, api.Missed, 0)
				tag++
			}
			takes(t, x, -1-k, three[k], 0)
		}
		if id, ok := x.Worst(); id != c.want || ok != c.ok {
			t.Errorf("Worst() of %v = %d, %v; want %d, %v", c.missed, id, ok, c.want, c.ok)
		}
	}
	zero := soon
	zero.Id = 0
	x := made(t, soon, zero)
	takes(t, x, 1, zero, 0)
	ends(t, x, 1, api.Missed, 0)
	if id, ok := x.Worst(); id != 0 || !ok {
		t.Errorf("Worst() = %d, %v; want 0, true", id, ok)
	}
}

func TestNil(t *testing.T) { // P34.2; one that New did not make has no streams
	for _, x := range []*tally.Table{nil, {}} {
		for _, j := range []api.Job{{}, job(t, soon, 0), {Stream: -1, Cost: -9}} {
			if errno := x.Take(0, j); errno != api.ErrNone {
				t.Errorf("Take(0, %v) = %d", j, errno)
			}
		}
		for _, o := range []api.Outcome{{}, {Fate: api.Delivered, At: 5}, {Fate: 9, At: -5}} {
			if errno := x.Fate(o); errno != api.ErrNone {
				t.Errorf("Fate(%v) = %d", o, errno)
			}
		}
		for _, id := range []int{0, 7, -1} {
			if r, ok := x.Row(id); r != (api.Row{}) || ok {
				t.Errorf("Row(%d) = %v, %v", id, r, ok)
			}
			for f := api.Fate(-1); f < 7; f++ {
				if n := x.Ratio(id, f); n != 0 {
					t.Errorf("Ratio(%d, %d) = %d", id, f, n)
				}
			}
		}
		totalIs(t, x, api.Row{})
		if l := x.Open(); len(l) != 0 {
			t.Errorf("Open() = %v", l)
		}
		if id, ok := x.Worst(); id != 0 || ok {
			t.Errorf("Worst() = %d, %v", id, ok)
		}
	}
}

func TestStaysAsItIs(t *testing.T) { // P3 of the whole: streams are neither changed nor kept
	l := slices.Clone(three)
	x := made(t, l[:2]...)
	if !slices.Equal(l, three) {
		t.Errorf("streams became %v", l)
	}
	clear(l)
	takes(t, x, 1, soon, 5)
	takes(t, x, 2, dated, 5)
	rowIs(t, x, api.Row{Stream: 7, Taken: 1, Fates: [6]int{1}})
	y := made(t, three...) // nor is anything that another table has
	totalIs(t, y, api.Row{})
}
