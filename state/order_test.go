package state

import (
	"slices"
	"testing"

	"landmark/api"
)

// inOrders gives the inputs to a copy of the state in each order in which all of them are accepted, and does something behind each.
func inOrders(t *testing.T, s *State, left []api.Input, do func(*State)) {
	t.Helper()
	if len(left) == 0 {
		do(s)
	}
	for n, i := range left {
		if s.Check(i) != api.OK {
			continue
		}
		c := s.Copy()
		if _, e := c.Apply(i); e != api.OK {
			t.Fatal(e)
		}
		inOrders(t, c, slices.Delete(slices.Clone(left), n, n+1), do)
	}
}

// holdOrders holds that all orders come to the same, and to that behind the given one; it tells how many there were.
func holdOrders(t *testing.T, o *pair, left []api.Input) int {
	t.Helper()
	given := o.copied()
	given.take(left...)
	given.hold()
	want, count := given.s, 0
	inOrders(t, o.s, left, func(s *State) {
		count++
		p, e := s.FinalPoint()
		q, wrong := want.FinalPoint()
		if p != q || e != wrong || s.Mode() != want.Mode() || s.Clock() != want.Clock() {
			t.Fatalf("FinalPoint: %v, %v; want %v, %v", p, e, q, wrong)
		}
		if !slices.Equal(s.Justified(), want.Justified()) || !slices.Equal(s.Gadget().AllFinal(), want.Gadget().AllFinal()) {
			t.Fatal("other ones are justified, or final")
		}
		for _, h := range given.m.points {
			r, e := s.Register(h.Name)
			if e != api.OK || !sameRegister(r, given.m.registers[h.Name]) {
				t.Fatal("another register")
			}
		}
		if len(s.Inputs()) != len(want.Inputs()) {
			t.Fatal("other inputs")
		}
	})
	return count
}

// P18.4: all orders of a handful of headers and votes that are all accepted come to the same justified ones, final one, registers.
func TestAllOrders(t *testing.T) {
	o := newPair(t, anchorOf(3, 60, 2, 2, 1))
	root := o.m.anchor.Point
	// What the checkpoints are called is found on a copy.
	c := o.copied()
	six := c.header(root, 6, deposit(4, 1))
	seven, eight := c.header(six, 7, exit(3)), c.header(root, 8)
	headers := []api.Input{headerOf(root, 6, deposit(4, 1)), headerOf(six, 7, exit(3)), headerOf(root, 8)}
	count := holdOrders(t, o, append(slices.Clone(headers), voteOf(t, 1, root, six), voteOf(t, 2, root, six), voteOf(t, 1, six, seven), voteOf(t, 2, six, seven)))
	if count < 100 {
		t.Error(count)
	}
	count = holdOrders(t, o, append(headers[:2:2], voteOf(t, 4, six, seven), voteOf(t, 1, six, seven), voteOf(t, 2, six, seven), voteOf(t, 1, root, seven), voteOf(t, 3, root, seven)))
	if count < 100 {
		t.Error(count)
	}
	count = holdOrders(t, o, append(slices.Clone(headers), voteOf(t, 3, root, eight), voteOf(t, 2, root, eight), voteOf(t, 3, root, six), voteOf(t, 2, root, six)))
	if count < 100 {
		t.Error(count)
	}
}

// P18.4: all orders of votes over a line of links, of which each may wait for others, and of readings within the anchor's time.
func TestAllOrdersLine(t *testing.T) {
	o := newPair(t, anchorOf(1, 40, 3, 1))
	l := o.line(root(o), 6, 7, 9, 10, 11)
	var votes []api.Input
	for n := range 5 {
		votes = append(votes, voteOf(t, 1, l[n], l[n+1]))
	}
	if count := holdOrders(t, o, append(votes, voteOf(t, 1, l[1], l[3]))); count != 720 {
		t.Error(count)
	}
	if count := holdOrders(t, o, append(votes[:4:4], readingOf(20), voteOf(t, 2, l[0], l[3]))); count != 720 {
		t.Error(count)
	}
}

// P18.4: votes that come in the same order, among headers that come otherwise, tell the same evidence.
func TestOrderEvidence(t *testing.T) {
	o := newPair(t, four())
	root := o.m.anchor.Point
	c := o.copied()
	six, seven := c.header(root, 6), c.header(root, 7)
	x, y := c.header(six, 7), c.header(seven, 8)
	headers := []api.Input{headerOf(root, 6), headerOf(root, 7), headerOf(six, 7), headerOf(seven, 8)}
	votes := []api.Input{voteOf(t, 2, root, x), voteOf(t, 1, root, seven), voteOf(t, 2, six, x), voteOf(t, 1, seven, y), voteOf(t, 1, root, x), voteOf(t, 3, root, seven)}
	c.take(votes...)
	want := c.s.Evidence()
	if len(want) != 2 {
		t.Fatal(len(want))
	}
	count := 0
	// mixed goes on with a header, whichever is left, or with the next vote.
	var mixed func(s *State, left, votes []api.Input)
	mixed = func(s *State, left, votes []api.Input) {
		if len(left)+len(votes) == 0 {
			count++
			if !slices.EqualFunc(s.Evidence(), want, sameEvidence) {
				t.Fatal("other evidence")
			}
		}
		for n, i := range left {
			next := s.Copy()
			if _, e := next.Apply(i); e == api.OK {
				mixed(next, slices.Delete(slices.Clone(left), n, n+1), votes)
			}
		}
		if len(votes) > 0 {
			next := s.Copy()
			if _, e := next.Apply(votes[0]); e == api.OK {
				mixed(next, left, votes[1:])
			}
		}
	}
	mixed(o.s, headers, votes)
	if count < 15 {
		t.Error(count)
	}
}
