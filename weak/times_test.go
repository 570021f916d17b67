package weak

import (
	"math/rand/v2"
	"testing"
)

// P16.2: where the time ends: below the greatest number, just there, just above it, and far above it.
func TestEnd(t *testing.T) {
	for _, given := range []struct{ anchor, window, want uint64 }{
		{7, 5, 12}, {0, 0, 0}, {0, 5, 5}, {7, 0, 7}, {1 << 62, 1 << 62, 1 << 63},
		{0, most, most}, {most, 0, most}, {0, most - 1, most - 1}, {most - 1, 0, most - 1},
		{most - 5, 4, most - 1}, {most - 5, 5, most}, {most - 5, 6, most}, {most - 5, 7, most},
		{4, most - 5, most - 1}, {5, most - 5, most}, {6, most - 5, most},
		{1<<63 - 1, 1<<63 - 1, most - 1}, {1<<63 - 1, 1 << 63, most}, {1 << 63, 1<<63 - 1, most}, {1 << 63, 1 << 63, most}, {1<<63 + 1, 1 << 63, most},
		{most, 1, most}, {1, most, most}, {most, most - 1, most}, {most, most, most},
	} {
		if got := End(given.anchor, given.window); got != given.want {
			t.Errorf("End of %d and %d: %d; want %d", given.anchor, given.window, got, given.want)
		}
		holdTimes(t, given.anchor, given.window, 0)
	}
}

// P16.2: epochs at each place around an anchor and an end, the chapter's examples among them.
func TestTimesPlain(t *testing.T) {
	for _, given := range []struct {
		anchor, window, epoch uint64
		want                  answers
	}{
		{7, 5, 0, answers{12, false, false, 12}},
		{7, 5, 6, answers{12, false, false, 6}},
		{7, 5, 7, answers{12, false, true, 5}},
		{7, 5, 10, answers{12, false, true, 2}},
		{7, 5, 11, answers{12, false, true, 1}},
		{7, 5, 12, answers{12, false, true, 0}},
		{7, 5, 13, answers{12, true, false, 0}},
		{7, 5, most, answers{12, true, false, 0}},
		{7, 0, 6, answers{7, false, false, 1}},
		{7, 0, 7, answers{7, false, true, 0}},
		{7, 0, 8, answers{7, true, false, 0}},
		{0, 0, 0, answers{0, false, true, 0}},
		{0, 0, 1, answers{0, true, false, 0}},
		{0, 0, most, answers{0, true, false, 0}},
	} {
		if got := answersOf(given.anchor, given.window, given.epoch); got != given.want {
			t.Errorf("anchor %d, window %d, epoch %d: %v; want %v", given.anchor, given.window, given.epoch, got, given.want)
		}
		holdTimes(t, given.anchor, given.window, given.epoch)
	}
}

// P16.2: where the time ends at the greatest number, or one below it: nothing is above the one, one epoch alone above the other.
func TestTimesAtTheLast(t *testing.T) {
	for _, given := range []struct {
		anchor, window, epoch uint64
		want                  answers
	}{
		{most - 6, 5, most - 1, answers{most - 1, false, true, 0}},
		{most - 6, 5, most, answers{most - 1, true, false, 0}},
		{most - 5, 5, most - 1, answers{most, false, true, 1}},
		{most - 5, 5, most, answers{most, false, true, 0}},
		{most - 5, 6, most - 5, answers{most, false, true, 5}},
		{most - 5, 6, most - 6, answers{most, false, false, 6}},
		{most - 5, 6, most, answers{most, false, true, 0}},
		{most - 5, most, most, answers{most, false, true, 0}},
		{most, 0, most - 1, answers{most, false, false, 1}},
		{most, 0, most, answers{most, false, true, 0}},
		{most, most, most, answers{most, false, true, 0}},
		{most, most, 0, answers{most, false, false, most}},
		{1 << 63, 1 << 63, 0, answers{most, false, false, most}},
		{1 << 63, 1 << 63, 1, answers{most, false, false, most - 1}},
		{0, most, 0, answers{most, false, true, most}},
		{0, most - 1, 0, answers{most - 1, false, true, most - 1}},
		{0, most, most, answers{most, false, true, 0}},
	} {
		if got := answersOf(given.anchor, given.window, given.epoch); got != given.want {
			t.Errorf("anchor %d, window %d, epoch %d: %v; want %v", given.anchor, given.window, given.epoch, got, given.want)
		}
		holdTimes(t, given.anchor, given.window, given.epoch)
	}
}

// P16.2: all small anchors, windows and epochs, and great ones, each with each.
func TestTimesGrid(t *testing.T) {
	for anchor := range uint64(16) {
		for window := range uint64(16) {
			for epoch := range uint64(36) {
				holdTimes(t, anchor, window, epoch)
			}
		}
	}
	l := around(2, 0, 1<<32, 1<<62, 1<<63, 3<<62, most)
	for _, anchor := range l {
		for _, window := range l {
			for _, epoch := range append(around(2, anchor, End(anchor, window)), l...) {
				holdTimes(t, anchor, window, epoch)
			}
		}
	}
}

// P16.2: anchors, windows and epochs by chance, also near the anchor, and near the end.
func TestTimesByChance(t *testing.T) {
	source := rand.New(rand.NewPCG(16, 3))
	for range 10000 {
		anchor, window := someNumber(source), someNumber(source)
		for _, epoch := range append(around(1, anchor, End(anchor, window)), someNumber(source), 0, most) {
			holdTimes(t, anchor, window, epoch)
		}
	}
}
