package edf_test

import (
	"math"
	"math/rand"
	"slices"
	"testing"

	"bellbuoy/api"
	"bellbuoy/edf"
)

// base is a job that can be: all others of these tests are like it but for what they say.
var base = api.Job{Stream: 3, Release: 10, Deadline: 500, Cost: 80}

// job is one of these parts.
func job(stream int, release, deadline, cost int64) api.Job {
	return api.Job{Stream: stream, Release: release, Deadline: deadline, Cost: cost}
}

// rights are jobs that can be: each part at its first and its last number, and between.
var rights = []api.Job{
	base, job(0, 0, 0, 1), job(api.MaxStream, 1<<50, 1<<51, api.MaxSpan),
	job(0, 10, 500, 80), job(1, 10, 500, 80), job(api.MaxStream-1, 10, 500, 80), job(api.MaxStream, 10, 500, 80),
	job(3, 0, 500, 80), job(3, 1, 500, 80), job(3, 500, 500, 80), job(3, 1<<50-1, 1<<50, 80), job(3, 1<<50, 1<<50, 80),
	job(3, 10, 10, 80), job(3, 10, 11, 80), job(3, 10, 1<<50+1, 80), job(3, 10, 1<<51-1, 80), job(3, 10, 1<<51, 80),
	job(3, 10, 500, 1), job(3, 10, 500, 2), job(3, 10, 500, 491), job(3, 10, 500, api.MaxSpan-1), job(3, 10, 500, api.MaxSpan),
}

// wrongs are jobs that can't be: each part out of its bounds.
var wrongs = []api.Job{
	{}, job(-1, 10, 500, 80), job(api.MaxStream+1, 10, 500, 80), job(1<<32+3, 10, 500, 80), job(math.MaxInt, 10, 500, 80), job(math.MinInt, 10, 500, 80),
	job(3, -1, 500, 80), job(3, 1<<50+1, 1<<51, 80), job(3, 1<<51, 1<<51, 80), job(3, math.MaxInt64, math.MaxInt64, 80), job(3, math.MinInt64, 500, 80),
	job(3, 10, 9, 80), job(3, 10, 0, 80), job(3, 10, -1, 80), job(3, 500, 499, 80), job(3, 1<<50, 1<<50-1, 80), job(3, 10, 1<<51+1, 80), job(3, 10, math.MaxInt64, 80), job(3, 10, math.MinInt64, 80),
	job(3, 10, 500, 0), job(3, 10, 500, -1), job(3, 10, 500, api.MaxSpan+1), job(3, 10, 500, 1<<32+80), job(3, 10, 500, math.MaxInt64), job(3, 10, 500, math.MinInt64),
	job(-1, -1, -2, 0), job(3, -2, -1, 80),
}

// lengths are those that slots may have, noLengths those that they may not.
var (
	lengths   = []int64{1, 2, 3, 80, 100, 1 << 20, api.MaxSpan - 1, api.MaxSpan}
	noLengths = []int64{0, -1, -100, api.MaxSpan + 1, 1 << 32, 1<<32 + 100, 1 << 40, 1 << 50, math.MaxInt64, math.MinInt64, math.MinInt64 + 100}
)

func TestRight(t *testing.T) { // P27.1
	for _, j := range rights {
		if !edf.Right(j) {
			t.Errorf("%v can be", j)
		}
	}
	for _, j := range wrongs {
		if edf.Right(j) {
			t.Errorf("%v can't be", j)
		}
	}
}

func TestAhead(t *testing.T) { // P27.1
	for _, c := range []struct {
		a, b   api.Job // a is ahead of b
		length int64
	}{
		{job(3, 10, 499, 80), job(3, 10, 500, 80), 1}, // slots of a bit
		{job(9, 400, 499, 80), job(3, 10, 500, 1), 100},
		{job(9, 400, 499, 80), job(3, 10, 500, 1), 500},
		{job(9, 400, 599, 80), job(3, 10, 600, 1), 100},
		{job(9, 400, 500, 80), job(3, 10, 699, 1), 100},      // slots one behind the other
		{job(9, 400, 500, 80), job(3, 10, 700, 1), 100},      // one between
		{job(2, 400, 599, 80), job(3, 10, 500, 1), 100},      // in one slot: the lesser stream, though it is due later, and came later
		{job(2, 400, 500, 80), job(3, 10, 500, 1), 100},      // due at once
		{job(0, 10, 999, 80), job(1, 9, 0+10, 1), 1000},      // in slot 0
		{job(3, 10, 599, 80), job(3, 11, 500, 1), 100},       // of one stream: the one that came first
		{job(3, 10, 500, 80), job(3, 11, 500, 1), 100},       //
		{job(3, 0, 500, 80), job(3, 1, 500, 80), 1},          //
		{job(9, 10, 499, 80), job(3, 10, 1<<51, 80), 100},    //
		{job(9, 10, 25599, 80), job(3, 10, 25600, 80), 100},  // slot 255, and the one behind it
		{job(9, 10, 25699, 80), job(3, 10, 25700, 80), 100},  // 256, 257
		{job(9, 10, 1<<40-1, 80), job(3, 10, 1<<40, 80), 64}, // far behind
		{job(9, 10, 1<<51-1, 80), job(3, 10, 1<<51, 80), 1},
		{job(9, 10, 1<<51-1, 80), job(3, 10, 1<<51, 80), api.MaxSpan},
		{job(2, 10, 1<<51-1, 80), job(3, 10, 1<<51-api.MaxSpan, 80), api.MaxSpan},
		{job(9, 10, api.MaxSpan-1, 80), job(3, 10, api.MaxSpan, 80), api.MaxSpan},
		{job(9, 10, api.MaxSpan-2, 80), job(3, 10, api.MaxSpan-1, 80), api.MaxSpan - 1},
		{job(3, 1<<50-1, 1<<50, 80), job(3, 1<<50, 1<<50, 80), 100},
		{job(0, 0, 0, 1), job(api.MaxStream, 1<<50, 1<<51, api.MaxSpan), api.MaxSpan},
	} {
		if !edf.Ahead(c.a, c.b, c.length) {
			t.Errorf("%v is ahead of %v, with slots of %d", c.a, c.b, c.length)
		}
		if edf.Ahead(c.b, c.a, c.length) {
			t.Errorf("%v is not ahead of %v, with slots of %d", c.b, c.a, c.length)
		}
	}
}

func TestAheadOfAlike(t *testing.T) { // P27.1: within a slot neither deadlines count, nor costs
	for _, length := range lengths {
		for _, j := range rights {
			if edf.Ahead(j, j, length) {
				t.Errorf("%v is ahead of itself, with slots of %d", j, length)
			}
		}
	}
	for _, c := range []struct {
		a, b   api.Job
		length int64
	}{
		{job(3, 10, 500, 80), job(3, 10, 599, 80), 100}, {job(3, 10, 500, 80), job(3, 10, 500, 81), 1}, {job(3, 0, 0, 1), job(3, 0, 99, api.MaxSpan), 100}, {job(3, 0, 0, 1), job(3, 0, api.MaxSpan-1, 1), api.MaxSpan},
	} {
		if edf.Ahead(c.a, c.b, c.length) || edf.Ahead(c.b, c.a, c.length) {
			t.Errorf("%v and %v are alike, with slots of %d", c.a, c.b, c.length)
		}
	}
}

func TestAheadOfNothing(t *testing.T) { // P27.1
	first, last := job(0, 0, 0, 1), job(api.MaxStream, 1<<50, 1<<51, 1)
	for _, length := range append(lengths, noLengths...) {
		for _, j := range wrongs {
			for _, other := range append(wrongs, first, last, base) {
				if edf.Ahead(j, other, length) || edf.Ahead(other, j, length) {
					t.Errorf("%v and %v, with slots of %d", j, other, length)
				}
			}
		}
	}
	for _, length := range noLengths {
		if edf.Ahead(first, last, length) || edf.Ahead(last, first, length) {
			t.Errorf("slots of %d", length)
		}
	}
	for _, length := range lengths {
		if !edf.Ahead(first, last, length) {
			t.Errorf("no slots of %d", length)
		}
	}
}

// ahead is what chapter 27 says of two jobs that can be.
func ahead(a, b api.Job, length int64) bool {
	mine, other := a.Deadline/length, b.Deadline/length // no deadline is below 0
	if mine != other {
		return mine < other
	}
	if a.Stream != b.Stream {
		return a.Stream < b.Stream
	}
	return a.Release < b.Release
}

// anyJob is one of a few, so that many are alike, or come while others are sent.
func anyJob(chance *rand.Rand) api.Job {
	release := chance.Int63n(60)
	return job(chance.Intn(3), release, release+chance.Int63n(40), 1+chance.Int63n(9))
}

// farJob is any one.
func farJob(chance *rand.Rand) api.Job {
	release := chance.Int63n(1 << (1 + chance.Intn(50)))
	return job(chance.Intn(api.MaxStream+1), release, release+chance.Int63n(1<<51-release+1), 1+chance.Int63n(api.MaxSpan))
}

func TestAheadOfAny(t *testing.T) { // P27.1
	chance := rand.New(rand.NewSource(151))
	for range 30000 {
		a, b, length := anyJob(chance), anyJob(chance), 1+chance.Int63n(20)
		if chance.Intn(3) == 0 {
			a, b, length = farJob(chance), farJob(chance), 1+chance.Int63n(1<<(1+chance.Intn(30)))
		}
		if chance.Intn(4) == 0 {
			b.Deadline = max(b.Release, min(1<<51, a.Deadline+chance.Int63n(2*length+1)-length))
		}
		if got := edf.Ahead(a, b, length); got != ahead(a, b, length) {
			t.Fatalf("Ahead(%v, %v, %d) = %v", a, b, length, got)
		}
	}
}

// many is so many jobs that come at once.
func many(n int, j api.Job) []api.Job { return slices.Repeat([]api.Job{j}, n) }

// refused is a list, and a length, of which something is wrong, and what is told.
type refused struct {
	l      []api.Job
	length int64
	want   api.Errno
}

// refusals have one thing wrong, or several, of which the first one is told.
func refusals() []refused {
	var all []refused
	for _, length := range noLengths {
		for _, l := range [][]api.Job{nil, {}, {base}, {base, {}}, {{}}, many(api.MaxJobs, base), many(api.MaxJobs+1, base), many(api.MaxJobs+1, api.Job{})} {
			all = append(all, refused{l, length, api.ErrRange})
		}
	}
	for _, length := range lengths {
		for _, n := range []int{api.MaxJobs + 1, api.MaxJobs + 2, 1000} {
			all = append(all, refused{many(n, base), length, api.ErrLong}, refused{many(n, api.Job{}), length, api.ErrLong}, refused{append(many(n-1, base), wrongs[1]), length, api.ErrLong})
		}
		for _, j := range wrongs {
			all = append(all, refused{[]api.Job{j}, length, api.ErrKind}, refused{[]api.Job{j, base}, length, api.ErrKind}, refused{[]api.Job{base, j}, length, api.ErrKind}, refused{[]api.Job{base, j, base}, length, api.ErrKind})
		}
		all = append(all, refused{append(many(api.MaxJobs-1, base), job(3, 10, 9, 80)), length, api.ErrKind}, refused{many(api.MaxJobs, api.Job{}), length, api.ErrKind})
	}
	return all
}

func TestErrors(t *testing.T) { // P27.1, P27.2: a length's ahead of a long list's, and that ahead of a job's
	for _, c := range refusals() {
		given := slices.Clone(c.l)
		if s, errno := edf.Run(c.l, c.length); len(s) != 0 || errno != c.want {
			t.Errorf("Run(%d jobs, %d) = %v, %d; want %d", len(c.l), c.length, s, errno, c.want)
		}
		if late, errno := edf.Late(c.l, c.length); len(late) != 0 || errno != c.want {
			t.Errorf("Late(%d jobs, %d) = %v, %d; want %d", len(c.l), c.length, late, errno, c.want)
		}
		for _, from := range []int64{0, -1, 7, 1 << 52, 1<<52 + 1, math.MaxInt64, math.MinInt64} {
			if idle, errno := edf.Busy(c.l, c.length, from); idle != 0 || errno != c.want {
				t.Errorf("Busy(%d jobs, %d, %d) = %d, %d; want %d", len(c.l), c.length, from, idle, errno, c.want)
			}
		}
		if !slices.Equal(c.l, given) { // P3
			t.Errorf("%v became %v", given, c.l)
		}
	}
}
