package state

import (
	"slices"
	"testing"

	"landmark/api"
)

// kinds are the kinds of a state's inputs.
func (o *pair) kinds() []string { return kindsOf(o.s.Inputs()) }

func (o *pair) wantInputs(want ...string) {
	o.t.Helper()
	if l := o.kinds(); !slices.Equal(l, want) {
		o.t.Fatalf("Inputs: %q; want %q", l, want)
	}
	o.hold()
}

// P18.3: all that were accepted, in order, and nothing of what was refused; of the readings the last one alone, where it came.
func TestInputs(t *testing.T) {
	o := newPair(t, four())
	o.wantInputs()
	a := o.header(root(o), 6)
	o.wantInputs("header 6")
	o.take(readingOf(6))
	o.wantInputs("header 6", "reading 6")
	b := o.header(a, 7)
	o.vote(root(o), a, 2)
	o.wantInputs("header 6", "reading 6", "header 7", "vote 2")
	o.refuse(api.ErrIdle, readingOf(6), readingOf(5), voteOf(t, 9, a, b))
	o.refuse(api.ErrExists, voteOf(t, 2, root(o), a), headerOf(a, 7))
	o.refuse(api.ErrSig, voteBy(t, keyAt(1), 4, a, b))
	o.wantInputs("header 6", "reading 6", "header 7", "vote 2")
	o.take(readingOf(8))
	o.wantInputs("header 6", "header 7", "vote 2", "reading 8")
	o.take(readingOf(9))
	o.wantInputs("header 6", "header 7", "vote 2", "reading 9")
	o.vote(root(o), a, 1)
	o.vote(root(o), a, 4)
	o.wantInputs("header 6", "header 7", "vote 2", "reading 9", "vote 1", "vote 4")
	o.take(readingOf(16))
	o.header(b, 20)
	o.wantInputs("header 6", "header 7", "vote 2", "vote 1", "vote 4", "reading 16", "header 20")
}

// P18.3: a reading that comes first, and one that comes behind nothing.
func TestInputsReadings(t *testing.T) {
	o := newPair(t, four())
	o.take(readingOf(6))
	o.wantInputs("reading 6")
	o.take(readingOf(15))
	o.wantInputs("reading 15")
	a := o.header(root(o), 6)
	o.vote(root(o), a, 1)
	o.wantInputs("reading 15", "header 6", "vote 1")
	o.take(readingOf(1 << 63))
	o.wantInputs("header 6", "vote 1", "reading 9223372036854775808")
}

// P18.3: none from ahead of an accepted anchor, nor it; but the reading by which the clock stands above its epoch, ahead of all, since a state of the anchor would not have the clock without it.
func TestInputsAnchor(t *testing.T) {
	o, l := staleOne(t)
	o.take(anchorInput(o.newAnchor(l[2], 20)))
	o.wantInputs("reading 16")
	p := o.header(l[2], 8)
	o.vote(l[2], p, 3)
	o.wantInputs("reading 16", "header 8", "vote 3")
	o.take(readingOf(20))
	o.wantInputs("header 8", "vote 3", "reading 20")
	o.take(readingOf(28))
	o.header(p, 28)
	o.wantInputs("header 8", "vote 3", "reading 28", "header 28")
	// At its epoch no reading is told.
	o.take(anchorInput(o.newAnchor(o.m.pointAt(1), 3)))
	o.wantInputs()
	o.take(readingOf(32))
	o.wantInputs("reading 32")
	o.take(anchorInput(o.newAnchor(root(o), 4)))
	o.wantInputs("reading 32")
	o.take(readingOf(33))
	o.wantInputs("reading 33")
}

// P18.3: what is said at fault says the same: no header, vote or anchor behind the fault, but readings.
func TestInputsFault(t *testing.T) {
	o, a, _ := forked(t)
	want := o.kinds()
	o.refuse(api.ErrFault, headerOf(a[2], 8), voteOf(t, 4, a[0], a[1]))
	o.wantInputs(want...)
	o.take(readingOf(9))
	o.take(readingOf(30))
	o.wantInputs(append(want, "reading 30")...)
}

// P18.3: a state that is given them goes on as the state does.
func TestInputsGoOn(t *testing.T) {
	o, l := mixed(t)
	c := o.rebuilt()
	c.m = o.m.copied()
	for _, each := range []*pair{o, c} {
		each.refuse(api.ErrExists, voteOf(t, 1, l[0], l[1]), headerOf(l[0], 6, deposit(5, 4), exit(4)))
		p := each.header(l[3], 9)
		each.vote(l[2], l[3], 3, 1, 5, 6)
		each.vote(l[3], p, 1, 5)
		each.take(readingOf(11))
		each.hold()
	}
	if !isSame(t, o.s, c.s) {
		t.Error("both went on, and are not the same")
	}
}

// P18.3: a copy has all that there is, and goes on apart, both ways, by each kind of input.
func TestCopy(t *testing.T) {
	o, l := mixed(t)
	c := o.copied()
	c.hold()
	if !isSame(t, o.s, c.s) {
		t.Error("a copy is not the same")
	}
	for n, each := range [][2]*pair{{o, c}, {c, o}} {
		one, other := each[0], each[1]
		p := one.header(l[3], 9+uint64(n))
		other.hold()
		one.vote(l[3], p, 1)
		other.hold()
		one.take(readingOf(one.s.Clock() + 1))
		other.hold()
		one.hold()
	}
	c.take(readingOf(1000))
	o.hold()
	if isSame(t, o.s, c.s) {
		t.Error("both have the copy's reading")
	}
	c.take(anchorInput(c.newAnchor(l[2], 2000)))
	o.hold()
	c.hold()
	o.vote(l[2], l[3], 1, 3, 5, 6)
	c.hold()
	c.line(l[2], 8, 9)
	o.hold()
	o.take(readingOf(1000))
	o.take(anchorInput(o.newAnchor(l[3], 3000)))
	c.hold()
	o.hold()
}

// P18.3: copies share no list that both go on with, however much there was.
func TestCopyShares(t *testing.T) {
	for n := range 20 {
		for _, isCopyFirst := range []bool{false, true} {
			o := newPair(t, anchorOf(1, 200, 1, 1, 1, 1))
			up := root(o)
			for i := range n {
				if i%2 == 0 {
					up = o.header(up, 6+uint64(i))
				} else {
					o.vote(root(o), up, 1)
				}
			}
			c := o.copied()
			if isCopyFirst {
				o, c = c, o
			}
			x := o.header(up, 50)
			y := c.header(up, 60)
			o.vote(root(o), x, 1)
			c.header(y, 61)
			o.header(x, 51)
			c.vote(root(c), y, 1)
			o.hold()
			c.hold()
		}
	}
}

// P18.3: a copy of a state at fault, of a stale one, of one that knows nothing.
func TestCopyModes(t *testing.T) {
	fault, _, _ := forked(t)
	stale, _ := staleOne(t)
	for _, o := range []*pair{fault, stale, newPair(t, four())} {
		c := o.copied()
		c.hold()
		c.take(readingOf(77))
		o.hold()
		c.hold()
		c.copied().hold()
	}
}

// A state's value, assigned, is the same state: what one takes the other one has taken, too, also where an anchor came.
func TestValueAssigned(t *testing.T) {
	o, l := staleOne(t)
	value := *o.s
	c := &pair{t, &value, o.m}
	c.header(l[3], 9)
	o.hold()
	o.take(anchorInput(o.newAnchor(l[2], 20)))
	c.hold()
	c.header(l[2], 8)
	o.hold()
	if !isSame(t, o.s, c.s) {
		t.Error("not the same")
	}
}

// P18.3: Same asks the anchor, the clock, the mode, the final one and the inputs but for the clock's.
func TestSame(t *testing.T) {
	begin := func() (*pair, []api.Point) {
		o := newPair(t, four())
		return o, o.line(root(o), 6, 7)
	}
	o, l := begin()
	o.vote(l[0], l[1], 1, 2, 3)
	for n, given := range []struct {
		want bool
		do   func(c *pair)
	}{
		{true, func(c *pair) { c.vote(l[0], l[1], 1, 2, 3) }},
		{false, func(c *pair) { c.vote(l[0], l[1], 1, 2) }},
		{false, func(c *pair) { c.vote(l[0], l[1], 1, 2, 4) }},
		{false, func(c *pair) { c.vote(l[0], l[1], 1, 3, 2) }},
		{false, func(c *pair) { c.vote(l[0], l[1], 1, 2, 3, 4) }},
		{false, func(c *pair) { c.vote(l[0], l[2], 1, 2, 3) }},
		{false, func(c *pair) { c.vote(l[0], l[1], 1, 2, 3); c.header(l[0], 8) }},
		{false, func(c *pair) { c.vote(l[0], l[1], 1, 2, 3); c.take(readingOf(6)) }},
		{false, func(c *pair) { c.vote(l[0], l[1], 1, 2, 3); c.take(readingOf(16)) }},
		{false, func(c *pair) { c.vote(l[0], l[1], 1, 2, 3); c.vote(l[1], l[2], 1, 2, 3) }},
	} {
		c, _ := begin()
		given.do(c)
		if is := isSame(t, o.s, c.s); is != given.want {
			t.Errorf("%d: Same %v", n, is)
		}
	}
	if !Same(o.s, o.s) || !isSame(t, o.s, o.s.Copy()) {
		t.Error("one is not the same as itself")
	}
}

// P18.3: headers and votes in other orders are other inputs, though all that follows is the same.
func TestSameOrder(t *testing.T) {
	o, c := newPair(t, four()), newPair(t, four())
	for _, each := range []*pair{o, c} {
		each.header(root(each), 6)
	}
	six := o.m.pointAt(0)
	o.header(six, 7)
	o.vote(root(o), six, 1)
	c.vote(root(c), six, 1)
	if isSame(t, o.s, c.s) {
		t.Error("the same without a header")
	}
	c.header(six, 7)
	if isSame(t, o.s, c.s) {
		t.Error("the same in another order")
	}
	// Of headers alone, too.
	o, c = newPair(t, four()), newPair(t, four())
	o.take(headerOf(root(o), 6), headerOf(root(o), 7))
	c.take(headerOf(root(o), 7), headerOf(root(o), 6))
	if isSame(t, o.s, c.s) {
		t.Error("the same of headers in another order")
	}
	// And of headers that differ in an operation alone.
	o, c = newPair(t, four()), newPair(t, four())
	o.take(headerOf(root(o), 6, exit(1)))
	c.take(headerOf(root(o), 6, exit(2)))
	if isSame(t, o.s, c.s) {
		t.Error("the same of unlike headers")
	}
}

// P18.3: readings alone that came otherwise: where the clock stands counts, and not how it came to stand there, nor when.
func TestSameReadings(t *testing.T) {
	ways := []func(o *pair){
		func(o *pair) { o.take(readingOf(9), headerOf(root(o), 6), headerOf(root(o), 7)) },
		func(o *pair) { o.take(headerOf(root(o), 6), readingOf(9), headerOf(root(o), 7)) },
		func(o *pair) { o.take(headerOf(root(o), 6), headerOf(root(o), 7), readingOf(9)) },
		func(o *pair) {
			o.take(readingOf(6), headerOf(root(o), 6), readingOf(7), headerOf(root(o), 7), readingOf(9))
		},
		func(o *pair) { o.take(readingOf(8), readingOf(9), headerOf(root(o), 6), headerOf(root(o), 7)) },
	}
	others := []func(o *pair){
		func(o *pair) { o.take(readingOf(8), headerOf(root(o), 6), headerOf(root(o), 7)) },
		func(o *pair) { o.take(headerOf(root(o), 6), headerOf(root(o), 7)) },
		func(o *pair) { o.take(headerOf(root(o), 6), readingOf(10), headerOf(root(o), 7)) },
		func(o *pair) { o.take(headerOf(root(o), 6), readingOf(16), headerOf(root(o), 7)) },
		func(o *pair) { o.take(headerOf(root(o), 6), readingOf(9)) },
	}
	made := func(do func(o *pair)) *State {
		o := newPair(t, four())
		do(o)
		o.hold()
		return o.s
	}
	for n, a := range ways {
		for m, b := range ways {
			if !isSame(t, made(a), made(b)) {
				t.Error("not the same:", n, m)
			}
		}
		for m, b := range others {
			if isSame(t, made(a), made(b)) {
				t.Error("the same:", n, m)
			}
		}
	}
}

// P18.3: anchors that differ in one thing, with nothing behind them.
func TestSameAnchor(t *testing.T) {
	right := anchorOf(2, 40, 3, 4)
	o := newPair(t, right)
	if !isSame(t, o.s, newPair(t, anchorOf(2, 40, 3, 4)).s) {
		t.Error("of one anchor they are not the same")
	}
	for n, change := range []func(*api.Anchor){
		func(a *api.Anchor) { a.Point.Name[5] ^= 1 },
		func(a *api.Anchor) { a.Point.Epoch++ },
		func(a *api.Anchor) { a.Churn = 1 },
		// The window is the same.
		func(a *api.Anchor) { a.Decay++ },
		func(a *api.Anchor) { a.Validators = append([]api.Validator(nil), a.Validators[:1]...) },
		func(a *api.Anchor) { a.Validators = []api.Validator{a.Validators[1], a.Validators[0]} },
		func(a *api.Anchor) {
			a.Validators = []api.Validator{{Key: rootAt(1), Stake: 3}, {Key: rootAt(2), Stake: 5}}
		},
	} {
		if isSame(t, o.s, newPair(t, changed(right, change)).s) {
			t.Error("the same:", n)
		}
	}
	// One that came to its anchor, and one that began with it.
	c, l := staleOne(t)
	a := c.newAnchor(l[2], 30)
	c.take(anchorInput(a))
	d := newPair(t, a)
	if isSame(t, c.s, d.s) {
		t.Error("the same, with another clock")
	}
	d.take(readingOf(16))
	if !isSame(t, c.s, d.s) {
		t.Error("not the same")
	}
}
