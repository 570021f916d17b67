package state

import (
	"math"
	"testing"

	"landmark/api"
)

// P18.1: a reading below, at, and above where the clock stands: ErrIdle is told where it is not above.
func TestReading(t *testing.T) {
	o := newPair(t, four())
	o.refuse(api.ErrIdle, readingOf(0), readingOf(4), readingOf(5))
	for _, reading := range []uint64{6, 7, 9, 15, 16, 17, 1 << 32, mostEpoch, mostEpoch + 1, 1 << 63, math.MaxUint64 - 1, math.MaxUint64} {
		ahead := o.s.Clock()
		p, e := o.give(readingOf(reading))
		if p != (api.Point{}) || e != api.OK || o.s.Clock() != reading {
			t.Fatal(reading, p, e)
		}
		o.hold()
		o.refuse(api.ErrIdle, readingOf(reading), readingOf(reading-1), readingOf(ahead), readingOf(5), readingOf(0))
	}
}

// P18.1: at 0 no reading of 0 is above it.
func TestReadingFromNought(t *testing.T) {
	a := four()
	a.Point.Epoch = 0
	o := newPair(t, a)
	o.refuse(api.ErrIdle, readingOf(0))
	o.take(readingOf(1))
	o.refuse(api.ErrIdle, readingOf(1), readingOf(0))
	o.hold()
}

// P18.1: at fault, and stale, readings are taken as ever.
func TestReadingAtFault(t *testing.T) {
	o, a, _ := forked(t)
	o.refuse(api.ErrIdle, readingOf(5), readingOf(0))
	o.take(readingOf(6))
	o.hold()
	o.take(readingOf(16))
	o.refuse(api.ErrIdle, readingOf(16))
	o.wantMode(api.ModeFault)
	o.wantFinal(a[1])
	o.hold()
}

// P18.2, P0.4: at the end of the anchor's time it is well, one above it is stale: nothing is told as final, and no vote is taken; headers are, and looks answer.
func TestStale(t *testing.T) {
	o := newPair(t, four())
	l := o.line(o.m.anchor.Point, 6, 7, 8)
	o.vote(l[0], l[1], 1, 2, 3)
	o.vote(l[1], l[2], 1, 2)
	o.take(readingOf(15))
	o.wantMode(api.ModeWell)
	o.vote(l[1], l[2], 3)
	o.wantFinal(l[1])
	o.hold()
	o.take(readingOf(16))
	o.wantMode(api.ModeStale)
	if p, e := o.s.FinalPoint(); p != (api.Point{}) || e != api.ErrStale {
		t.Error(p, e)
	}
	o.refuse(api.ErrStale, voteOf(t, 4, l[1], l[2]), voteOf(t, 1, l[2], l[3]))
	// An older reading does not bring it back.
	o.refuse(api.ErrIdle, readingOf(15), readingOf(5), readingOf(16))
	o.wantMode(api.ModeStale)
	o.header(l[3], 9, exit(4))
	o.wantJustified(l[:3]...)
	o.hold()
}
