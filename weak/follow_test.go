package weak

import (
	"math/rand/v2"
	"testing"

	"landmark/api"
)

// P16.3, P0.4: what is stale stays so, whatever it is that comes later; ahead of that it was not, and ever fewer epochs were left.
func TestStaleStays(t *testing.T) {
	source := rand.New(rand.NewPCG(16, 4))
	stale, well := 0, 0
	hold := func(anchor, window, epoch, later uint64) {
		t.Helper()
		epoch, later = min(epoch, later), max(epoch, later)
		if Stale(anchor, window, epoch) {
			stale++
			if !Stale(anchor, window, later) || Within(anchor, window, later) || Left(anchor, window, later) != 0 {
				t.Fatalf("anchor %d, window %d: stale at %d, and not at %d", anchor, window, epoch, later)
			}
			return
		}
		well++
		if Left(anchor, window, later) > Left(anchor, window, epoch) {
			t.Fatalf("anchor %d, window %d: more is left at %d than at %d", anchor, window, later, epoch)
		}
	}
	for anchor := range uint64(6) {
		for window := range uint64(6) {
			for epoch := range uint64(14) {
				for later := range uint64(14) {
					hold(anchor, window, epoch, later)
				}
			}
		}
	}
	for range 20000 {
		anchor, window := someNumber(source), someNumber(source)>>source.IntN(64)
		hold(anchor, window, someNumber(source), someNumber(source))
		hold(anchor, window, someNumber(source), most)
		for _, epoch := range around(1, anchor, End(anchor, window)) {
			hold(anchor, window, epoch, someNumber(source))
		}
	}
	if stale < 10000 || well < 10000 {
		t.Error(stale, well)
	}
}

// P16.2: each epoch from the anchor's on is within, till none is left; the next one is stale.
func TestWithinEndsWhereStaleBegins(t *testing.T) {
	for _, anchor := range []uint64{0, 1, 7, 1<<62 - 3, 1 << 63, most - 100} {
		for window := range uint64(20) {
			for step := range window + 1 {
				if !Within(anchor, window, anchor+step) || Left(anchor, window, anchor+step) != window-step {
					t.Fatalf("anchor %d, window %d: %d behind it", anchor, window, step)
				}
			}
			if next := anchor + window + 1; Within(anchor, window, next) || !Stale(anchor, window, next) {
				t.Fatalf("anchor %d, window %d: the next one", anchor, window)
			}
			if anchor > 0 && (Within(anchor, window, anchor-1) || Left(anchor, window, anchor-1) != window+1) {
				t.Fatalf("anchor %d, window %d: the one ahead of it", anchor, window)
			}
		}
	}
}

// P16.3: a greater decay, or a lesser churn, leaves no anchor stale that was not.
func TestMoreDecayLeavesNoneStale(t *testing.T) {
	source := rand.New(rand.NewPCG(16, 5))
	count := 0
	for range 20000 {
		decay, churn, anchor, epoch := someNumber(source), 1+someNumber(source)>>1, someNumber(source), someNumber(source)
		greater, e := Window(decay, churn)
		lesser, also := Window(min(decay, someNumber(source)), max(churn, someNumber(source)))
		if e != api.OK || also != api.OK {
			t.Fatalf("decay %d, churn %d: %v, %v", decay, churn, e, also)
		}
		if Stale(anchor, greater, epoch) {
			count++
			if !Stale(anchor, lesser, epoch) {
				t.Fatalf("anchor %d, epoch %d: stale with a window of %d, and not with %d", anchor, epoch, greater, lesser)
			}
		}
	}
	if count < 2000 {
		t.Error(count)
	}
}
