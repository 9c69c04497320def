package edf_test

import (
	"math"
	"math/rand"
	"slices"
	"testing"

	"bellbuoy/api"
	"bellbuoy/edf"
)

// runs fails unless this is what is sent.
func runs(t *testing.T, l []api.Job, length int64, want ...edf.Sent) {
	t.Helper()
	given := slices.Clone(l)
	if got, errno := edf.Run(l, length); !slices.Equal(got, want) || errno != api.OK {
		t.Fatalf("Run(%v, %d) = %v, %d; want %v", l, length, got, errno, want)
	}
	if !slices.Equal(l, given) { // P3
		t.Fatalf("%v became %v", given, l)
	}
}

// late fails unless just these are.
func late(t *testing.T, l []api.Job, length int64, want ...int) {
	t.Helper()
	given := slices.Clone(l)
	if got, errno := edf.Late(l, length); !slices.Equal(got, want) || errno != api.OK {
		t.Fatalf("Late(%v, %d) = %v, %d; want %v", l, length, got, errno, want)
	}
	if !slices.Equal(l, given) { // P3
		t.Fatalf("%v became %v", given, l)
	}
}

// busy fails unless nothing is sent at that bit first, from some bit on.
func busy(t *testing.T, l []api.Job, length, from, want int64) {
	t.Helper()
	given := slices.Clone(l)
	if got, errno := edf.Busy(l, length, from); got != want || errno != api.OK {
		t.Fatalf("Busy(%v, %d, %d) = %d, %d; want %d", l, length, from, got, errno, want)
	}
	if !slices.Equal(l, given) { // P3
		t.Fatalf("%v became %v", given, l)
	}
}

func TestRun(t *testing.T) { // P27.1
	for _, c := range []struct {
		l      []api.Job
		length int64
		want   []edf.Sent
	}{
		{nil, 1, nil}, {[]api.Job{}, api.MaxSpan, nil},
		{[]api.Job{job(0, 0, 0, 1)}, 1, []edf.Sent{{0, 0, 1}}},
		{[]api.Job{base}, 100, []edf.Sent{{0, 10, 90}}},
		{[]api.Job{job(1, 0, 9, 5), job(2, 0, 9, 5)}, 1, []edf.Sent{{0, 0, 5}, {1, 5, 10}}},                                      // example 1
		{[]api.Job{job(2, 0, 9, 5), job(1, 0, 9, 5)}, 1, []edf.Sent{{1, 0, 5}, {0, 5, 10}}},                                      // the lesser stream
		{[]api.Job{job(1, 0, 20, 5), job(2, 0, 7, 5)}, 1, []edf.Sent{{1, 0, 5}, {0, 5, 10}}},                                     // due first
		{[]api.Job{job(1, 0, 20, 5), job(2, 0, 7, 5)}, 30, []edf.Sent{{0, 0, 5}, {1, 5, 10}}},                                    // in one slot
		{[]api.Job{job(1, 0, 30, 5), job(2, 0, 29, 5)}, 30, []edf.Sent{{1, 0, 5}, {0, 5, 10}}},                                   // just in two
		{[]api.Job{job(1, 4, 30, 5), job(1, 3, 30, 5)}, 30, []edf.Sent{{1, 3, 8}, {0, 8, 13}}},                                   // of one stream
		{[]api.Job{job(0, 0, 0, 9), job(1, 4, 30, 5), job(1, 3, 30, 5)}, 30, []edf.Sent{{0, 0, 9}, {2, 9, 14}, {1, 14, 19}}},     //
		{[]api.Job{job(1, 0, 90, 10), job(2, 1, 2, 5)}, 1, []edf.Sent{{0, 0, 10}, {1, 10, 15}}},                                  // what is sent is not broken off
		{[]api.Job{job(1, 0, 90, 10), job(2, 9, 80, 5), job(3, 5, 70, 5)}, 1, []edf.Sent{{0, 0, 10}, {2, 10, 15}, {1, 15, 20}}},  // those that come while the wire is taken
		{[]api.Job{job(1, 0, 90, 10), job(2, 10, 80, 5), job(3, 5, 85, 5)}, 1, []edf.Sent{{0, 0, 10}, {1, 10, 15}, {2, 15, 20}}}, // just when it becomes idle
		{[]api.Job{job(1, 0, 90, 10), job(2, 11, 80, 5), job(3, 5, 85, 5)}, 1, []edf.Sent{{0, 0, 10}, {2, 10, 15}, {1, 15, 20}}}, // a bit too late
		{[]api.Job{job(1, 0, 90, 10), job(2, 10, 80, 5)}, 1, []edf.Sent{{0, 0, 10}, {1, 10, 15}}},
		{[]api.Job{job(1, 0, 90, 10), job(2, 11, 80, 5)}, 1, []edf.Sent{{0, 0, 10}, {1, 11, 16}}}, // a bit is idle
		{[]api.Job{job(1, 1<<50, 1<<50, 10), job(2, 11, 80, 5)}, 1, []edf.Sent{{1, 11, 16}, {0, 1 << 50, 1<<50 + 10}}},
		{[]api.Job{job(1, 1<<50, 1<<50, api.MaxSpan), job(1, 1<<50, 1<<50, api.MaxSpan)}, 1, []edf.Sent{{0, 1 << 50, 1<<50 + api.MaxSpan}, {1, 1<<50 + api.MaxSpan, 1<<50 + 2*api.MaxSpan}}},
		{[]api.Job{job(2, 3, 700, 1), job(1, 3, 400, 2), job(3, 3, 100, 4)}, 100, []edf.Sent{{2, 3, 7}, {1, 7, 9}, {0, 9, 10}}},
		{[]api.Job{job(1, 0, 30000, 1), job(2, 0, 29999, 1), job(3, 0, 1<<51, 1), job(4, 0, 1<<51-1, 1)}, 1, []edf.Sent{{1, 0, 1}, {0, 1, 2}, {3, 2, 3}, {2, 3, 4}}}, // there is no last slot
	} {
		runs(t, c.l, c.length, c.want...)
	}
}

func TestRunOfAlike(t *testing.T) { // P27.1: the first of the list, whatever it costs, and wherever it is due in the slot
	for _, n := range []int{1, 2, 3, 17, api.MaxJobs - 1, api.MaxJobs} {
		var want []edf.Sent
		for i := range n {
			want = append(want, edf.Sent{Job: i, Start: 10 + 80*int64(i), End: 90 + 80*int64(i)})
		}
		runs(t, many(n, base), 100, want...)
	}
	a, b, c := job(3, 10, 599, 5), job(3, 10, 500, 3), job(3, 10, 550, 4)
	runs(t, []api.Job{a, b, c}, 100, edf.Sent{Job: 0, Start: 10, End: 15}, edf.Sent{Job: 1, Start: 15, End: 18}, edf.Sent{Job: 2, Start: 18, End: 22})
	runs(t, []api.Job{c, b, a}, 100, edf.Sent{Job: 0, Start: 10, End: 14}, edf.Sent{Job: 1, Start: 14, End: 17}, edf.Sent{Job: 2, Start: 17, End: 22})
	other := job(9, 0, 1000, 20)
	runs(t, []api.Job{b, other, a, c}, 100, edf.Sent{Job: 1, Start: 0, End: 20}, edf.Sent{Job: 0, Start: 20, End: 23}, edf.Sent{Job: 2, Start: 23, End: 28}, edf.Sent{Job: 3, Start: 28, End: 32})
	runs(t, []api.Job{b, other, a, c}, 1, edf.Sent{Job: 1, Start: 0, End: 20}, edf.Sent{Job: 0, Start: 20, End: 23}, edf.Sent{Job: 3, Start: 23, End: 27}, edf.Sent{Job: 2, Start: 27, End: 32})
}

func TestLate(t *testing.T) { // P27.2
	for _, c := range []struct {
		l      []api.Job
		length int64
		want   []int
	}{
		{nil, 1, nil}, {[]api.Job{}, api.MaxSpan, nil}, {[]api.Job{base}, 100, nil},
		{[]api.Job{job(1, 10, 90, 80)}, 1, nil}, {[]api.Job{job(1, 10, 89, 80)}, 1, []int{0}}, // End just at a Deadline, and one above it
		{[]api.Job{job(1, 10, 10, 1)}, 1, []int{0}}, {[]api.Job{job(1, 10, 11, 1)}, 1, nil},
		{[]api.Job{job(1, 0, 9, 5), job(2, 0, 9, 5)}, 1, []int{1}}, {[]api.Job{job(1, 0, 9, 5), job(2, 0, 10, 5)}, 1, nil}, {[]api.Job{job(2, 0, 9, 5), job(1, 0, 9, 5)}, 1, []int{0}},
		{[]api.Job{job(1, 0, 20, 5), job(2, 0, 7, 5)}, 1, nil}, {[]api.Job{job(1, 0, 20, 5), job(2, 0, 7, 5)}, 30, []int{1}}, // in one slot
		{[]api.Job{job(3, 0, 1, 5), job(2, 0, 1, 5), job(1, 0, 1, 5)}, 1, []int{0, 1, 2}}, {[]api.Job{job(3, 0, 14, 5), job(2, 0, 10, 5), job(1, 0, 4, 5)}, 1, []int{0, 2}}, // rising, not as they are sent
		{[]api.Job{job(1, 0, 90, 10), job(2, 1, 2, 5)}, 1, []int{1}},
		{[]api.Job{job(1, 1<<50, 1<<51, api.MaxSpan), job(1, 1<<50, 1<<50+api.MaxSpan-1, api.MaxSpan)}, api.MaxSpan, []int{1}},
	} {
		late(t, c.l, c.length, c.want...)
	}
	all := make([]int, api.MaxJobs)
	for i := range all {
		all[i] = i
	}
	late(t, many(api.MaxJobs, base), 100, all[6:]...) // the sixth one ends at 490
	late(t, many(api.MaxJobs, job(3, 10, 10, 80)), 100, all...)
	late(t, many(api.MaxJobs, job(3, 10, 1<<51, 80)), 100)
}

func TestBusy(t *testing.T) { // P27.2
	l := []api.Job{job(1, 10, 500, 20), job(2, 15, 500, 5), job(3, 40, 500, 1), job(4, 1<<50, 1<<51, api.MaxSpan)} // 10 to 35, 40 to 41, and a long one
	for _, c := range []struct{ from, want int64 }{
		{0, 0}, {-1, 0}, {-100, 0}, {math.MinInt64, 0}, {9, 9}, // ahead of all
		{10, 35}, {11, 35}, {29, 35}, {30, 35}, {31, 35}, {34, 35}, {35, 35}, // within two, one behind the other
		{36, 36}, {39, 39}, {40, 41}, {41, 41}, {42, 42}, // between
		{1<<50 - 1, 1<<50 - 1}, {1 << 50, 1<<50 + api.MaxSpan}, {1<<50 + api.MaxSpan - 1, 1<<50 + api.MaxSpan}, {1<<50 + api.MaxSpan, 1<<50 + api.MaxSpan}, {1<<50 + api.MaxSpan + 1, 1<<50 + api.MaxSpan + 1},
		{1<<52 - 1, 1<<52 - 1}, {1 << 52, 1 << 52}, {1<<52 + 1, 1 << 52}, {1 << 60, 1 << 52}, {math.MaxInt64, 1 << 52},
	} {
		busy(t, l, 100, c.from, c.want)
		if c.from < 10 || c.from > 1<<50+api.MaxSpan {
			busy(t, nil, 100, c.from, c.want)
		}
	}
	busy(t, []api.Job{job(1, 0, 9, 5), job(2, 0, 9, 5)}, 1, 0, 10)
	busy(t, []api.Job{job(1, 0, 9, 5), job(2, 0, 9, 5)}, 1, -7, 10) // from 0 on
	busy(t, []api.Job{job(1, 0, 9, 5), job(2, 0, 9, 5)}, 1, 10, 10)
	busy(t, nil, 1, 77, 77)
	busy(t, []api.Job{}, 1, 0, 0)
	busy(t, many(api.MaxJobs, base), 1, 10, 10+api.MaxJobs*80)
}

// bitByBit is what is sent, found out at each bit, and how many bits that takes.
func bitByBit(l []api.Job, length int64) ([]edf.Sent, int64) {
	var run []edf.Sent
	sent := make([]bool, len(l))
	bit, free := int64(0), int64(0) // the bit that it is, and the first one at which the wire is idle
	for ; len(run) < len(l) || bit < free; bit++ {
		if bit < free {
			continue
		}
		best := -1
		for i, j := range l {
			if j.Release <= bit && !sent[i] && (best == -1 || ahead(j, l[best], length)) {
				best = i
			}
		}
		if best >= 0 {
			sent[best] = true
			free = bit + l[best].Cost
			run = append(run, edf.Sent{Job: best, Start: bit, End: free})
		}
	}
	return run, bit
}

func TestRunOfAny(t *testing.T) { // P27.1, P27.2
	chance := rand.New(rand.NewSource(152))
	for range 3000 {
		var l []api.Job
		for range chance.Intn(25) {
			l = append(l, anyJob(chance))
		}
		length := 1 + chance.Int63n(15)
		run, end := bitByBit(l, length)
		runs(t, l, length, run...)
		taken := make([]bool, end+1)
		var missed []int
		for _, s := range run {
			for bit := s.Start; bit < s.End; bit++ {
				taken[bit] = true
			}
			if s.End > l[s.Job].Deadline {
				missed = append(missed, s.Job)
			}
		}
		slices.Sort(missed)
		late(t, l, length, missed...)
		for from := end; from >= 0; from-- {
			busy(t, l, length, from, from+int64(slices.Index(taken[from:], false)))
		}
	}
}

func TestRunOfMany(t *testing.T) { // P27.3, P27.4: of jobs of any size, up to as many as there may be
	chance := rand.New(rand.NewSource(153))
	for range 300 {
		n := chance.Intn(api.MaxJobs + 1)
		if chance.Intn(10) == 0 {
			n = api.MaxJobs
		}
		var l []api.Job
		for range n {
			j := farJob(chance)
			if chance.Intn(3) > 0 && len(l) > 0 { // near another one
				other := l[chance.Intn(len(l))]
				j.Release = min(other.Release+chance.Int63n(3*api.MaxSpan), 1<<50)
				j.Deadline = min(j.Release+chance.Int63n(1<<33), 1<<51)
				j.Stream = other.Stream - chance.Intn(min(2, other.Stream+1))
			}
			l = append(l, j)
		}
		length := 1 + chance.Int63n(1<<(1+chance.Intn(30)))
		run, errno := edf.Run(l, length)
		if errno != api.OK {
			t.Fatalf("Run of %d jobs: %d", n, errno)
		}
		eachOnce(t, l, run)
		firstOnes(t, l, run, length)
	}
}

// eachOnce fails unless each job is sent just once, one at a time, and the wire is never idle while one waits.
func eachOnce(t *testing.T, l []api.Job, run []edf.Sent) {
	t.Helper()
	if len(run) != len(l) {
		t.Fatalf("%d of %d jobs are sent", len(run), len(l))
	}
	seen := make([]bool, len(l))
	free := int64(0)
	for at, s := range run {
		j := l[s.Job]
		if seen[s.Job] || s.Start < j.Release || s.Start < free || s.End != s.Start+j.Cost {
			t.Fatalf("%v at %d: %v, behind %d", j, at, s, free)
		}
		seen[s.Job] = true
		for _, later := range run[at:] {
			if s.Start > max(free, l[later.Job].Release) {
				t.Fatalf("%v begins at %d, where the wire is idle from %d on, though %v waits", j, s.Start, free, l[later.Job])
			}
		}
		free = s.End
	}
}

// firstOnes fails unless none that came, and was not sent, is ahead of one that is begun.
func firstOnes(t *testing.T, l []api.Job, run []edf.Sent, length int64) {
	t.Helper()
	for at, s := range run {
		for _, later := range run[at+1:] {
			j, other := l[s.Job], l[later.Job]
			if other.Release <= s.Start && (ahead(other, j, length) || !ahead(j, other, length) && later.Job < s.Job) {
				t.Fatalf("%v is begun at %d, ahead of %v", j, s.Start, other)
			}
		}
	}
}

func TestSpare(t *testing.T) { // P3: what stands behind a list's end stays, too, and answers are the caller's
	room := []api.Job{job(1, 0, 20, 5), job(2, 0, 7, 5), job(7, 7, 7, 7), job(8, 8, 8, 8)}
	given := slices.Clone(room)
	run, _ := edf.Run(room[:2], 1)
	_, _ = edf.Late(room[:2], 1)
	_, _ = edf.Busy(room[:2], 1, 0)
	if !slices.Equal(room, given) {
		t.Errorf("%v became %v", given, room)
	}
	run[0], run[1] = edf.Sent{}, edf.Sent{}
	late(t, many(3, job(3, 10, 10, 80)), 1, 0, 1, 2)
	runs(t, room[:2], 1, edf.Sent{Job: 1, Start: 0, End: 5}, edf.Sent{Job: 0, Start: 5, End: 10})
}
