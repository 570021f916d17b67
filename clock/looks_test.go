package clock

import (
	"math/rand/v2"
	"testing"

	"landmark/api"
)

// P17.2: Taken counts the readings that made the clock stand later, and no other.
func TestTaken(t *testing.T) {
	c := New(10)
	for i, given := range []struct {
		reading, at uint64
		taken       int
	}{
		{9, 10, 0}, {10, 10, 0}, {11, 11, 1}, {11, 11, 1}, {10, 11, 1}, {0, 11, 1}, {12, 12, 2}, {100, 100, 3}, {99, 100, 3}, {101, 101, 4},
		{1 << 63, 1 << 63, 5}, {1<<63 - 1, 1 << 63, 5}, {most, most, 6}, {most, most, 6}, {0, most, 6}, {102, most, 6},
	} {
		if _, e := c.Take(given.reading); e != api.OK || c.At() != given.at || c.Taken() != given.taken {
			t.Errorf("step %d: %v, At %d, Taken %d; want %d, %d", i, e, c.At(), c.Taken(), given.at, given.taken)
		}
	}
}

// P17.2: a great many readings, each above the one ahead of it, and each followed by one that is not.
func TestTakenMany(t *testing.T) {
	c := New(0)
	for i := range 200000 {
		at := 2 * uint64(i+1)
		is, e := c.Take(at)
		isAgain, wrong := c.Take(at - 1)
		if !is || isAgain || e != api.OK || wrong != api.OK || c.Taken() != i+1 || c.At() != at {
			t.Fatal(i, is, isAgain, e, wrong, c.Taken(), c.At())
		}
	}
}

// P17.2: looks change nothing, however often they are asked.
func TestLooksChangeNothing(t *testing.T) {
	for _, at := range edges() {
		o := newPair(t, at)
		for _, reading := range []uint64{at, 1 << 40, 3, most} {
			o.take(reading)
			for range 3 {
				o.hold()
				o.c.Copy()
				o.c.Same(New(9))
				o.c.Same(o.c)
				o.c.Same(nil)
			}
			o.hold()
		}
	}
}

// P17.2: a copy stands where the clock does, has taken what it took, and goes on apart, both ways.
func TestCopy(t *testing.T) {
	for _, at := range []uint64{0, 1, 7, 1 << 32, 1<<63 - 2, 1 << 63, most - 8} {
		o := newPair(t, at)
		o.take(at + 2)
		c := o.copied()
		c.hold()
		if !isSame(t, o.c, c.c) {
			t.Fatalf("at %d: a copy is not the same", at)
		}
		c.take(at + 4)
		o.hold()
		c.hold()
		if isSame(t, o.c, c.c) {
			t.Fatalf("at %d: both took what the copy took", at)
		}
		o.take(at + 6)
		o.hold()
		c.hold()
		// What the one took is news to the other one.
		c.take(at + 5)
		c.hold()
		c.take(at + 6)
		o.take(at + 6)
		o.hold()
		c.hold()
		if !isSame(t, o.c, c.c) || o.c.Taken() != 2 || c.c.Taken() != 4 {
			t.Fatalf("at %d: both at the same, by other readings: %d, %d", at, o.c.Taken(), c.c.Taken())
		}
	}
}

// P17.2: of a clock that took nothing a copy is one that took nothing, also where it stands at 0.
func TestCopyOfNew(t *testing.T) {
	for _, at := range edges() {
		o := newPair(t, at)
		c := o.copied()
		c.hold()
		if !isSame(t, o.c, c.c) {
			t.Errorf("at %d: a copy is not the same", at)
		}
		for _, reading := range edges() {
			c.take(reading)
			c.hold()
			o.hold()
		}
	}
}

// P17.2: copies of copies, at any step, each with readings of its own.
func TestCopies(t *testing.T) {
	source := rand.New(rand.NewPCG(17, 2))
	all := []*pair{newPair(t, 5)}
	for range 80 {
		o := all[source.IntN(len(all))]
		c := o.copied()
		all = append(all, c)
		for range 4 {
			c.take(source.Uint64N(40))
			o.take(source.Uint64N(40))
		}
		for _, each := range all {
			each.hold()
		}
	}
	for _, a := range all {
		for _, b := range all {
			if is := isSame(t, a.c, b.c); is != (a.m.at() == b.m.at()) {
				t.Fatalf("%v and %v: Same %v", a.m, b.m, is)
			}
		}
	}
}

// P17.2: Same asks where both stand, and not by which readings, nor how many.
func TestSame(t *testing.T) {
	for _, given := range []struct {
		a, b model
		want bool
	}{
		{model{5}, model{5}, true}, {model{5}, model{6}, false}, {model{0}, model{0}, true}, {model{0}, model{1}, false},
		{model{5}, model{3, 5}, true}, {model{5}, model{3, 4, 5}, true}, {model{5, 2}, model{3, 5, 4}, true}, {model{1, 9}, model{2, 9}, true},
		{model{5, 6}, model{5, 7}, false}, {model{5, 7}, model{7, 5}, true}, {model{5, 6}, model{5}, false}, {model{5}, model{5, 4}, true},
		{model{0, 1}, model{0}, false}, {model{0, 0}, model{0}, true},
		{model{most}, model{most}, true}, {model{most}, model{0, most}, true}, {model{most}, model{most - 1}, false}, {model{most}, model{0}, false},
		{model{1 << 63}, model{0}, false}, {model{1 << 32}, model{0}, false}, {model{1<<32 + 5}, model{5}, false}, {model{1 << 63}, model{1<<63 - 1}, false},
		{model{1<<63 + 5}, model{5}, false}, {model{1<<62 + 5}, model{5}, false},
	} {
		a, b := newPair(t, given.a[0]), newPair(t, given.b[0])
		for _, reading := range given.a[1:] {
			a.take(reading)
		}
		for _, reading := range given.b[1:] {
			b.take(reading)
		}
		if is := isSame(t, a.c, b.c); is != given.want {
			t.Errorf("%v and %v: Same %v", given.a, given.b, is)
		}
		if !a.c.Same(a.c) || !b.c.Same(b.c) {
			t.Errorf("%v and %v: one is not the same as itself", given.a, given.b)
		}
		a.hold()
		b.hold()
	}
}

// P17.2: all edges, each with each, and each bit by itself.
func TestSameGrid(t *testing.T) {
	for _, a := range edges() {
		for _, b := range edges() {
			if is := isSame(t, New(a), New(b)); is != (a == b) {
				t.Errorf("%d and %d: Same %v", a, b, is)
			}
		}
		for bit := range 64 {
			if isSame(t, New(a), New(a^1<<bit)) {
				t.Errorf("%d: the same as with bit %d turned", a, bit)
			}
		}
	}
}

// A nil clock and a zero one are as one: ErrNil of Take, and noughts of all else, however often they are asked; nothing is changed.
func TestNone(t *testing.T) {
	zero := Clock{}
	for _, c := range []*Clock{nil, {}, &zero, new(Clock)} {
		for _, reading := range append(edges(), edges()...) {
			if is, e := c.Take(reading); is || e != api.ErrNil {
				t.Errorf("Take of %d: %v, %v", reading, is, e)
			}
			if c.Asks(reading) || c.At() != 0 || c.Taken() != 0 || c.Copy() != nil {
				t.Errorf("behind %d: %v, %d, %d, %v", reading, c.Asks(reading), c.At(), c.Taken(), c.Copy())
			}
		}
	}
	if zero != (Clock{}) {
		t.Error("a zero one was changed")
	}
}

// P17.2: two of those that are none are the same, and none of them is as one that New made, also where that one stands at 0.
func TestSameOfNone(t *testing.T) {
	nones := []*Clock{nil, {}, new(Clock)}
	for i, a := range nones {
		for j, b := range nones {
			if !isSame(t, a, b) {
				t.Error(i, j)
			}
		}
		for _, at := range edges() {
			c := New(at)
			if isSame(t, a, c) || isSame(t, a, c.Copy()) {
				t.Errorf("none %d: the same as one at %d", i, at)
			}
			if _, e := c.Take(most); e != api.OK || isSame(t, a, c) {
				t.Errorf("none %d: the same as one at %d that took one", i, at)
			}
		}
		if !isSame(t, a, a.Copy()) {
			t.Errorf("none %d: not the same as its copy", i)
		}
	}
}
