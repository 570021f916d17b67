package clock

import (
	"math/rand/v2"
	"testing"

	"landmark/api"
)

// P17.1: a new clock stands where it is told, and no reading made it stand later.
func TestNew(t *testing.T) {
	for _, at := range edges() {
		c := New(at)
		if c == nil || c.At() != at || c.Taken() != 0 {
			t.Errorf("New of %d: %v", at, c)
		}
	}
	a, b := New(5), New(5)
	if is, e := a.Take(6); !is || e != api.OK || b.At() != 5 || b.Taken() != 0 {
		t.Error("two that New made are one")
	}
}

// The chapter's example.
func TestExample(t *testing.T) {
	c := New(5)
	for i, given := range []struct {
		reading uint64
		want    bool
	}{{3, false}, {9, true}, {9, false}} {
		if is, e := c.Take(given.reading); is != given.want || e != api.OK {
			t.Errorf("Take %d, of %d: %v, %v", i, given.reading, is, e)
		}
	}
	if c.At() != 9 || c.Taken() != 1 {
		t.Error(c.At(), c.Taken())
	}
}

// P17.1: a reading below where the clock stands, at it, one above it, far above it.
func TestTakePlain(t *testing.T) {
	for _, given := range []struct {
		at, reading uint64
		isLater     bool
		want        uint64
		taken       int
	}{
		{7, 0, false, 7, 0}, {7, 1, false, 7, 0}, {7, 6, false, 7, 0}, {7, 7, false, 7, 0},
		{7, 8, true, 8, 1}, {7, 9, true, 9, 1}, {7, 1 << 40, true, 1 << 40, 1}, {7, most, true, most, 1},
		{0, 0, false, 0, 0}, {0, 1, true, 1, 1}, {0, most, true, most, 1},
		{0, 1<<63 - 1, true, 1<<63 - 1, 1}, {0, 1 << 63, true, 1 << 63, 1},
		{1<<63 - 1, 1<<63 - 2, false, 1<<63 - 1, 0}, {1<<63 - 1, 1<<63 - 1, false, 1<<63 - 1, 0}, {1<<63 - 1, 1 << 63, true, 1 << 63, 1},
		{1 << 63, 0, false, 1 << 63, 0}, {1 << 63, 1<<63 - 1, false, 1 << 63, 0}, {1 << 63, 1 << 63, false, 1 << 63, 0},
		{1 << 63, 1<<63 + 1, true, 1<<63 + 1, 1}, {1 << 63, most, true, most, 1},
		{1<<62 - 1, 1 << 62, true, 1 << 62, 1}, {1 << 62, 1<<62 + 1, true, 1<<62 + 1, 1},
		{1<<32 - 1, 1 << 32, true, 1 << 32, 1}, {1 << 32, 1, false, 1 << 32, 0}, {1, 1 << 32, true, 1 << 32, 1},
		{most - 1, most, true, most, 1}, {most - 1, most - 1, false, most - 1, 0}, {most - 1, 0, false, most - 1, 0},
		{most, most, false, most, 0}, {most, most - 1, false, most, 0}, {most, 1 << 63, false, most, 0}, {most, 1, false, most, 0}, {most, 0, false, most, 0},
	} {
		c := New(given.at)
		if is := c.Asks(given.reading); is != given.isLater {
			t.Errorf("at %d: Asks of %d: %v", given.at, given.reading, is)
		}
		if is, e := c.Take(given.reading); is != given.isLater || e != api.OK {
			t.Errorf("at %d: Take of %d: %v, %v", given.at, given.reading, is, e)
		}
		if c.At() != given.want || c.Taken() != given.taken {
			t.Errorf("at %d, behind %d: At %d, Taken %d", given.at, given.reading, c.At(), c.Taken())
		}
	}
}

// P17.1: all edges, and what is around them, each with each, and then each a third time.
func TestTakeGrid(t *testing.T) {
	for _, at := range edges() {
		for _, mid := range edges() {
			for _, reading := range around(mid) {
				for _, last := range append(around(at), around(reading)...) {
					o := newPair(t, at)
					o.take(reading)
					o.hold()
					o.take(last)
					o.hold()
				}
			}
		}
	}
}

// P17.1: what was taken once makes the clock stand later no second time.
func TestTakeAgain(t *testing.T) {
	for _, at := range edges() {
		o := newPair(t, at)
		for _, reading := range edges() {
			for range 3 {
				o.take(reading)
				o.hold()
			}
		}
	}
}

// P17.1: Asks changes nothing, however often it is asked.
func TestAsksChangesNothing(t *testing.T) {
	source := rand.New(rand.NewPCG(17, 1))
	for _, at := range edges() {
		o := newPair(t, at)
		for _, reading := range edges() {
			for range 5 {
				if is := o.c.Asks(reading); is != (reading > at) {
					t.Fatalf("at %d: Asks of %d: %v", at, reading, is)
				}
				o.hold()
			}
		}
		// Nor when what was asked is taken at last.
		if at < most {
			o.take(at + 1)
			o.hold()
		}
	}
	o := newPair(t, 5)
	for range 300 {
		for range 5 {
			o.c.Asks(someReading(source))
			o.c.Asks(most)
		}
		o.hold()
		o.take(o.m.at() + source.Uint64N(3))
		o.hold()
	}
}
