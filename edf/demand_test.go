package edf_test

import (
	"math/rand"
	"slices"
	"testing"

	"bellbuoy/api"
	"bellbuoy/demand"
	"bellbuoy/edf"
	"bellbuoy/stream"
)

// passing is streams that pass the test of demand, with slots of that length, up to that horizon; their deadlines are so short that few could be shorter.
func passing(chance *rand.Rand, length, horizon int64) []api.Stream {
	var l []api.Stream
	for i := range 2 + chance.Intn(10) {
		s := api.Stream{Id: i, Class: api.EdfClass, Period: 1 + chance.Int63n(horizon), Bytes: chance.Intn(9)}
		if chance.Intn(5) == 0 {
			s.Class = []api.Class{api.DmClass, api.FixedClass}[chance.Intn(2)]
		}
		s.Period = max(s.Period, length)
		s.Deadline = s.Period
		if _, ok := demand.Passes(append(l, s), length, horizon); ok {
			l = append(l, s)
		}
	}
	chance.Shuffle(len(l), func(i, k int) { l[i].Id, l[k].Id = l[k].Id, l[i].Id })
	for _, i := range chance.Perm(len(l)) {
		shorten(l, i, length, horizon)
	}
	return l
}

// shorten makes the deadline of one as short as it may be.
func shorten(l []api.Stream, at int, length, horizon int64) {
	for step := l[at].Deadline / 2; step > 0; step /= 2 {
		for l[at].Deadline-step >= max(length, 1) {
			l[at].Deadline -= step
			if _, ok := demand.Passes(l, length, horizon); !ok {
				l[at].Deadline += step
				break
			}
		}
	}
}

// come is jobs of streams that are all due within a horizon: each a period apart at least in its stream, and most of them just that, from about a bit on; those of other classes are due at the end of time.
func come(t *testing.T, chance *rand.Rand, l []api.Stream, horizon int64) []api.Job {
	t.Helper()
	var jobs []api.Job
	begin, loose := chance.Int63n(400), chance.Intn(2) == 0
	for _, s := range l {
		release := max(0, begin+chance.Int63n(4)-2) // so that those that block are just begun
		if loose {
			release = chance.Int63n(1000)
		}
		last := api.Job{}
		for many := 0; many < 30 && release+s.Deadline <= horizon; many++ {
			j, errno := stream.Job(s, release)
			if errno != api.OK || many > 0 && !stream.Follows(s, last, j) {
				t.Fatalf("%v: a job at %d behind %v: %d", s, release, last, errno)
			}
			last = j
			if s.Class != api.EdfClass {
				j.Deadline = 1 << 51
			}
			jobs = append(jobs, j)
			release += s.Period
			if loose && chance.Intn(4) == 0 {
				release += chance.Int63n(200)
			}
		}
	}
	chance.Shuffle(len(jobs), func(i, k int) { jobs[i], jobs[k] = jobs[k], jobs[i] })
	return jobs[:min(len(jobs), api.MaxJobs)]
}

func TestNothingIsLate(t *testing.T) { // P27.5
	chance := rand.New(rand.NewSource(154))
	close, between := 0, 0
	for range 2000 {
		length := []int64{1, 1 + chance.Int63n(20), 1 + chance.Int63n(300)}[chance.Intn(3)]
		horizon := 500 + chance.Int63n(6000)
		l := passing(chance, length, horizon)
		if _, ok := demand.Passes(l, length, horizon); !ok {
			t.Fatalf("%v do not pass", l)
		}
		jobs := come(t, chance, l, horizon)
		late(t, jobs, length)
		run, _ := edf.Run(jobs, length)
		for at, s := range run {
			j := jobs[s.Job]
			if j.Deadline-s.End < length+3 {
				close++
			}
			if j.Deadline == 1<<51 && slices.ContainsFunc(run[at:], func(s edf.Sent) bool { return jobs[s.Job].Deadline < 1<<51 }) {
				between++
			}
		}
	}
	if close < 200 || between < 500 {
		t.Errorf("just %d end close to their deadlines; just %d of other classes come between", close, between)
	}
}

func TestOfAllClasses(t *testing.T) { // P27.5: what is of another class may be sent ahead, but just one
	l := []api.Stream{
		{Id: 9, Class: api.EdfClass, Period: 2000, Deadline: 320, Bytes: 8}, {Id: 1, Class: api.DmClass, Period: 2000, Deadline: 2000, Bytes: 8}, {Id: 0, Class: api.FixedClass, Period: 2000, Deadline: 2000, Bytes: 8},
	}
	if _, ok := demand.Passes(l, 1, 5000); !ok {
		t.Fatalf("%v do not pass", l)
	}
	jobs := []api.Job{{Stream: 9, Release: 1, Deadline: 321, Cost: 160}, {Stream: 1, Deadline: 1 << 51, Cost: 160}, {Stream: 0, Deadline: 1 << 51, Cost: 160}}
	late(t, jobs, 1)
	runs(t, jobs, 1, edf.Sent{Job: 2, Start: 0, End: 160}, edf.Sent{Job: 0, Start: 160, End: 320}, edf.Sent{Job: 1, Start: 320, End: 480})
}
