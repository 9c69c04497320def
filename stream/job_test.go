package stream_test

import (
	"math"
	"math/rand"
	"testing"

	"bellbuoy/api"
	"bellbuoy/class"
	"bellbuoy/stream"
)

// releases are when jobs may come, noReleases when none does.
var (
	releases   = []int64{0, 1, 40, 1 << 40, 1<<50 - 1, 1 << 50}
	noReleases = []int64{-1, -40, 1<<50 + 1, 1 << 51, 1 << 60, math.MaxInt64, math.MinInt64, math.MinInt64 + 40}
)

// job is one of a stream that can be.
func job(t *testing.T, s api.Stream, release int64) api.Job {
	t.Helper()
	j, errno := stream.Job(s, release)
	if errno != api.OK {
		t.Fatalf("Job(%v, %d): %d", s, release, errno)
	}
	return j
}

func TestJob(t *testing.T) { // P25.3
	for _, s := range rights() {
		for _, n := range releases {
			want := api.Job{Stream: s.Id, Release: n, Deadline: n + s.Deadline, Cost: int64(80 + 10*s.Bytes)}
			if got := job(t, s, n); got != want {
				t.Errorf("Job(%v, %d) = %v; want %v", s, n, got, want)
			}
		}
		for _, n := range noReleases {
			if got, errno := stream.Job(s, n); got != (api.Job{}) || errno != api.ErrRange {
				t.Errorf("Job(%v, %d) = %v, %d", s, n, got, errno)
			}
		}
	}
	for _, f := range wrongs() {
		for _, n := range append(releases, noReleases...) {
			if got, errno := stream.Job(f.s, n); got != (api.Job{}) || errno != f.want {
				t.Errorf("Job(%v, %d) = %v, %d; want %d", f.s, n, got, errno, f.want)
			}
		}
	}
}

func TestFollows(t *testing.T) { // P25.3
	for _, s := range rights() {
		for _, n := range []int64{0, 1, 40, 1<<50 - 2*api.MaxSpan} {
			a := job(t, s, n)
			for _, c := range []struct {
				apart int64
				want  bool
			}{
				{s.Period, true}, {s.Period - 1, false}, {s.Period + 1, true}, {2 * s.Period, true},
				{0, false}, {s.Period / 2, s.Period/2 >= s.Period},
			} {
				b := job(t, s, n+c.apart)
				if got := stream.Follows(s, a, b); got != c.want {
					t.Errorf("Follows(%v, %v, %v) = %v", s, a, b, got)
				}
				if stream.Follows(s, b, a) {
					t.Errorf("Follows(%v, %v, %v)", s, b, a)
				}
			}
		}
	}
	if first, last := job(t, base, 0), job(t, base, 1<<50); !stream.Follows(base, first, last) || stream.Follows(base, last, first) {
		t.Errorf("%v and %v", first, last)
	}
}

func TestFollowsOfOthers(t *testing.T) { // P25.3: both are jobs of that stream, in all that a job has
	a, b := job(t, base, 40), job(t, base, 5000)
	if !stream.Follows(base, a, b) {
		t.Fatalf("%v, %v", a, b)
	}
	change := func(j api.Job, how int, by int64) api.Job {
		switch how {
		case 0:
			j.Stream += int(by)
		case 1:
			j.Release += by
		case 2:
			j.Deadline += by
		case 3:
			j.Cost += by
		}
		return j
	}
	for how := range 4 {
		for _, by := range []int64{1, -1, 10, -10, 1 << 32, math.MaxInt64, math.MinInt64} {
			if c := change(a, how, by); stream.Follows(base, c, b) {
				t.Errorf("Follows(%v, %v, %v)", base, c, b)
			}
			if c := change(b, how, by); stream.Follows(base, a, c) {
				t.Errorf("Follows(%v, %v, %v)", base, a, c)
			}
		}
	}
	for _, s := range []api.Stream{but(base, id(8)), but(base, deadline(501)), but(base, bytes(7))} {
		if stream.Follows(s, a, b) {
			t.Errorf("Follows(%v, %v, %v)", s, a, b)
		}
	}
	for _, s := range []api.Stream{but(base, node(2)), but(base, slot(9)), but(base, of(api.DmClass)), but(base, period(4960))} { // what no job tells
		if !stream.Follows(s, a, b) {
			t.Errorf("Follows(%v, %v, %v) is false", s, a, b)
		}
	}
	if stream.Follows(but(base, period(4961)), a, b) {
		t.Errorf("a bit too soon, but %v follows %v", b, a)
	}
}

func TestFollowsOfWrong(t *testing.T) { // P25.3
	for _, n := range noReleases { // whatever else is as it must be
		far := api.Job{Stream: 9, Release: n, Deadline: n + 500, Cost: 160}
		for _, m := range append(releases, noReleases...) {
			other := api.Job{Stream: 9, Release: m, Deadline: m + 500, Cost: 160}
			if stream.Follows(base, far, other) || stream.Follows(base, other, far) {
				t.Errorf("%v, %v", far, other)
			}
		}
	}
	for _, f := range wrongs() { // a stream that can't be has no jobs
		var jobs []api.Job
		for _, n := range []int64{0, 40, 1 << 49} {
			jobs = append(jobs, api.Job{}, api.Job{Stream: f.s.Id, Release: n, Deadline: n + f.s.Deadline}, api.Job{Stream: f.s.Id, Release: n, Deadline: n + f.s.Deadline, Cost: 160})
		}
		for _, a := range jobs {
			for _, b := range jobs {
				if stream.Follows(f.s, a, b) {
					t.Fatalf("Follows(%v, %v, %v)", f.s, a, b)
				}
			}
		}
	}
}

func TestLaterJob(t *testing.T) { // P25.6
	chance := rand.New(rand.NewSource(138))
	for range 20000 {
		s := anyStream(chance)
		if right(s) != api.OK {
			continue
		}
		s.Period = s.Deadline + chance.Int63n(api.MaxSpan-s.Deadline+1)
		release, length := chance.Int63n(1<<32), 1+chance.Int63n(s.Deadline)
		a := job(t, s, release)
		b := job(t, s, release+s.Period+chance.Int63n(3)*chance.Int63n(1<<20))
		if !stream.Follows(s, a, b) || a.Deadline >= b.Deadline {
			t.Fatalf("%v and %v of %v", a, b, s)
		}
		if c := job(t, s, release+1); a.Deadline >= c.Deadline {
			t.Fatalf("%v and %v of %v", a, c, s)
		}
		epoch := a.Deadline - chance.Int63n(300)*length + chance.Int63n(10)*length
		one, first := stream.Label(s, a.Deadline, epoch, length)
		two, second := stream.Label(s, b.Deadline, epoch, length)
		if first != api.OK || second != api.OK || class.Before(two, one) {
			t.Fatalf("%v and %v of %v: %v, %v", a, b, s, one, two)
		}
	}
}
