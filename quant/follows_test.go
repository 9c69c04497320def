package quant_test

import (
	"math/rand"
	"testing"

	"bellbuoy/api"
	"bellbuoy/quant"
)

// slotOf is the slot of a deadline that can be.
func slotOf(t *testing.T, deadline, epoch, length int64) int {
	t.Helper()
	slot, ok := quant.Slot(deadline, epoch, length)
	if !ok || slot < 0 || slot > api.LastSlot {
		t.Fatalf("Slot(%d, %d, %d) = %d, %v", deadline, epoch, length, slot, ok)
	}
	return slot
}

// inOrder fails if the earlier one of two deadlines has a later slot, or is Far alone.
func inOrder(t *testing.T, a, b, epoch, length int64) {
	t.Helper()
	a, b = min(a, b), max(a, b)
	if slotOf(t, a, epoch, length) > slotOf(t, b, epoch, length) || quant.Far(a, epoch, length) && !quant.Far(b, epoch, length) {
		t.Fatalf("of slots of %d from %d on, %d is behind %d", length, epoch, a, b)
	}
}

// littleLost fails unless a deadline lies in its slot, if it lies in any.
func littleLost(t *testing.T, deadline, epoch, length int64) bool {
	t.Helper()
	if deadline < epoch || quant.Far(deadline, epoch, length) {
		return false
	}
	start, ok := quant.Start(slotOf(t, deadline, epoch, length), epoch, length)
	if !ok || deadline < start || deadline-start >= length {
		t.Fatalf("%d is not in the slot of %d from %d on", deadline, length, start)
	}
	return true
}

// promoted fails unless, with an epoch one length later, a deadline's slot is one less, but for 0, and what is Far.
func promoted(t *testing.T, deadline, epoch, length int64) {
	t.Helper()
	ahead, behind := slotOf(t, deadline, epoch, length), slotOf(t, deadline, epoch+length, length)
	want := max(ahead-1, 0)
	if quant.Far(deadline, epoch, length) {
		want = api.LastSlot // it is still in the last one, or Far
	}
	if behind != want {
		t.Fatalf("Slot(%d, %d, %d) = %d, and %d of the next epoch", deadline, epoch, length, ahead, behind)
	}
}

func TestWhatFollows(t *testing.T) { // P22.3, P22.4, P22.5
	chance := rand.New(rand.NewSource(72))
	within := 0
	for range 50000 {
		length := anyLength(chance)
		epoch := min(anyTime(chance, 0, length), latest-length)
		a := anyTime(chance, epoch, length)
		b := anyTime(chance, a, length)
		inOrder(t, a, b, epoch, length)
		inOrder(t, a, b, epoch+length, length)
		promoted(t, a, epoch, length)
		if littleLost(t, a, epoch, length) {
			within++
		}
	}
	if within < 5000 {
		t.Errorf("just %d deadlines lay in a slot", within)
	}
}

func TestWhatFollowsOneByOne(t *testing.T) { // P22.3, P22.4, P22.5
	for _, length := range []int64{1, 2, 10, longest} {
		for _, epoch := range []int64{-latest, -35, 0, 100, latest - 300*longest} {
			ahead := epoch
			for slot := range int64(260) {
				for _, off := range []int64{0, 1, length / 2, length - 1} {
					deadline := epoch + slot*length + off
					inOrder(t, ahead, deadline, epoch, length)
					promoted(t, deadline, epoch, length)
					if littleLost(t, deadline, epoch, length) != (deadline < epoch+256*length) {
						t.Fatalf("%d, from %d on: is it Far?", deadline, epoch)
					}
					ahead = deadline
				}
			}
		}
	}
}

func TestPromotedTillNow(t *testing.T) { // P22.5: epoch by epoch a deadline comes a slot nearer, till it is in the first one, and stays there
	for _, length := range []int64{1, 7, 10, longest} {
		for _, off := range []int64{0, 1, length - 1} {
			deadline := 300*length + min(off, length-1)
			for behind := range int64(320) {
				want := max(0, min(300-behind, api.LastSlot))
				if got := slotOf(t, deadline, behind*length, length); got != int(want) {
					t.Fatalf("Slot(%d, %d, %d) = %d; want %d", deadline, behind*length, length, got, want)
				}
			}
		}
	}
}

func TestEpochBegins(t *testing.T) { // P22.2: now lies from the epoch on, ahead of the next one, which is an epoch itself
	chance := rand.New(rand.NewSource(73))
	for range 50000 {
		length := anyLength(chance)
		now := max(length-latest, min(latest-length, anyTime(chance, 0, length)))
		epoch, ok := quant.Epoch(now, length)
		next, is := quant.Next(now, length)
		if !ok || !is || epoch%length != 0 || now < epoch || now >= next || next-epoch != length {
			t.Fatalf("%d lies from %d, %v, to %d, %v; length %d", now, epoch, ok, next, is, length)
		}
		for _, c := range []struct{ now, epoch int64 }{{epoch, epoch}, {next - 1, epoch}, {next, next}, {epoch - 1, epoch - length}} {
			if c.now < -latest {
				continue
			}
			if got, ok := quant.Epoch(c.now, length); got != c.epoch || !ok {
				t.Fatalf("Epoch(%d, %d) = %d, %v; want %d", c.now, length, got, ok, c.epoch)
			}
		}
		if slot := slotOf(t, now, epoch, length); slot != 0 {
			t.Fatalf("now, %d, is in slot %d", now, slot)
		}
	}
}
