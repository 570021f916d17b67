package state

import (
	"iter"
	"maps"
	"slices"

	"landmark/api"
	"landmark/chain"
	"landmark/clock"
	"landmark/ffg"
	"landmark/pool"
	"landmark/registry"
	"landmark/weak"
)

// store is what is known since the anchor came.
type store struct {
	anchor api.Anchor
	chain  *chain.Chain
	// registers are never changed once they are there, so that copies of a state may keep them.
	registers map[api.Hash]api.Register
	pool      *pool.Pool
	gadget    *ffg.Gadget
	clock     *clock.Clock
	final     api.Point
	hasClash  bool
	// order is the kinds of the headers and votes that were accepted, one behind the other: what they are, the chain and the pool have.
	order []api.InputKind
	// read is how many of these came ahead of the last reading.
	read int
}

// begin is an anchor's store, where the clock stood at a reading.
func begin(a api.Anchor, reading uint64) (*store, api.Errno) {
	r, e := registry.First(a)
	if e != api.OK {
		return nil, e
	}
	// Of an anchor that may be, the checkpoint may be, too.
	c, _ := chain.New(a.Point)
	g, _ := ffg.New(a.Point)
	return &store{
		anchor:    cloneAnchor(a),
		chain:     c,
		registers: map[api.Hash]api.Register{a.Point.Name: r},
		pool:      pool.New(),
		gadget:    g,
		clock:     clock.New(max(reading, a.Point.Epoch)),
		final:     a.Point,
	}, api.OK
}

// window is how many epochs the anchor is good.
func (s *store) window() uint64 {
	// Of an anchor that may be, the churn is not 0.
	w, _ := weak.Window(s.anchor.Decay, s.anchor.Churn)
	return w
}

func (s *store) ends() uint64 { return weak.End(s.anchor.Point.Epoch, s.window()) }

// isBeyond: is an epoch above where the anchor's time ends?
func (s *store) isBeyond(epoch uint64) bool {
	return weak.Stale(s.anchor.Point.Epoch, s.window(), epoch)
}

func (s *store) isStale() bool { return s.isBeyond(s.clock.At()) }

func (s *store) isAtFault() bool { return s.hasClash }

// takeHeader adds a header that is accepted, and the register behind it.
func (s *store) takeHeader(h api.Header, behind api.Register) api.Point {
	p, _ := s.chain.Add(h)
	s.registers[p.Name] = behind
	s.order = append(s.order, api.InputHeader)
	return p
}

// takeVote adds a vote that is accepted, of a member of its target's register.
func (s *store) takeVote(v api.Vote, r api.Register) {
	weight, _ := s.pool.Add(v, keyOf(r, v.Validator), registry.Stake(r, v.Validator))
	s.order = append(s.order, api.InputVote)
	if ffg.Strong(weight, registry.Total(r)) {
		s.takeLink(pool.LinkOf(v))
	}
}

// standing is whether a link's source is final, and its target justified.
func (s *store) standing(l api.Link) [2]bool {
	return [2]bool{s.gadget.Final(l.Source), s.gadget.Justified(l.Target)}
}

// takeLink tells the gadget of a strong link, and finds what is final then.
func (s *store) takeLink(l api.Link) {
	ahead := s.standing(l)
	s.gadget.Strong(l)
	if s.standing(l) == ahead {
		// Nothing more is final then: to look for clashes of thousands at each such vote would take too long.
		return
	}
	_, _, s.hasClash = ffg.Clash(s.chain, s.gadget.AllFinal()...)
	if !s.hasClash {
		s.final = s.gadget.Best()
	}
}

// takeReading lets the clock stand later.
func (s *store) takeReading(reading uint64) {
	s.clock.Take(reading)
	s.read = len(s.order)
}

func (s *store) headers() []api.Header { return listOf(s.chain.All()) }

func (s *store) votes() []api.Signed { return listOf(s.pool.All()) }

// inputs are what was accepted, as its kinds name it.
func (s *store) inputs() []api.Input {
	var l []api.Input
	headers, votes := s.headers(), s.votes()
	for _, kind := range s.order {
		i := api.Input{Kind: kind}
		if kind == api.InputHeader {
			i.Header, headers = headers[0], headers[1:]
		} else {
			i.Vote, votes = votes[0].Vote, votes[1:]
		}
		l = append(l, i)
	}
	// A reading from ahead of the anchor comes first: without it the clock would go back.
	if reading := s.clock.At(); reading > s.anchor.Point.Epoch {
		l = slices.Insert(l, s.read, api.Input{Kind: api.InputClock, Reading: reading})
	}
	return l
}

// clone is a store that goes on apart.
func (s *store) clone() *store {
	c := *s
	c.chain, c.pool, c.gadget, c.clock = s.chain.Copy(), s.pool.Copy(), s.gadget.Copy(), s.clock.Copy()
	c.registers, c.order = maps.Clone(s.registers), slices.Clone(s.order)
	return &c
}

// listOf is all that is gone over.
func listOf[T any](all iter.Seq2[int, T]) []T {
	var l []T
	for _, x := range all {
		l = append(l, x)
	}
	return l
}

// keyOf is the key of a register's member; there may be none of that number.
func keyOf(r api.Register, n int) api.Hash {
	if n < 1 || n > len(r.Members) {
		return api.Hash{}
	}
	return r.Members[n-1].Key
}

func cloneAnchor(a api.Anchor) api.Anchor {
	a.Validators = slices.Clone(a.Validators)
	return a
}

func cloneRegister(r api.Register) api.Register {
	r.Members, r.Coming, r.Going = slices.Clone(r.Members), slices.Clone(r.Coming), slices.Clone(r.Going)
	return r
}
