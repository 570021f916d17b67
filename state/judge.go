package state

import (
	"landmark/api"
	"landmark/codec"
	"landmark/pool"
	"landmark/registry"
	"landmark/slash"
)

// change is what an accepted input does; it answers, of a header, its checkpoint.
type change func() api.Point

// judges tell, of each kind of input, what one does, or why it is refused.
func judges() map[api.InputKind]func(*store, api.Input) (change, api.Errno) {
	return map[api.InputKind]func(*store, api.Input) (change, api.Errno){
		api.InputHeader: (*store).judgeHeader,
		api.InputVote:   (*store).judgeVote,
		api.InputClock:  (*store).judgeReading,
		api.InputAnchor: (*store).judgeAnchor,
	}
}

// firstOf is the first error that one of some refusals tells: those behind it are not asked, and may lean on it.
func firstOf(refusals ...func() api.Errno) api.Errno {
	for _, refusal := range refusals {
		if e := refusal(); e != api.OK {
			return e
		}
	}
	return api.OK
}

// when is a refusal for one reason.
func when(e api.Errno, holds func() bool) func() api.Errno {
	return func() api.Errno {
		if holds() {
			return e
		}
		return api.OK
	}
}

// judgeHeader judges a header.
func (s *store) judgeHeader(i api.Input) (change, api.Errno) {
	h, r := i.Header, s.registers[i.Header.Parent]
	var behind api.Register
	e := firstOf(
		when(api.ErrFault, s.isAtFault),
		func() api.Errno {
			_, e := s.chain.Check(h)
			return e
		},
		func() (e api.Errno) {
			// The chain knows the parent, or has told so.
			epoch, _ := s.chain.Epoch(h.Parent)
			behind, e = registry.Next(r, h, epoch)
			return e
		},
		when(api.ErrOp, func() bool { return !areProven(r, h.Ops) }),
	)
	if e != api.OK {
		return nil, e
	}
	return func() api.Point { return s.takeHeader(h, behind) }, api.OK
}

// areProven: is there, of each operation that tells of a broken rule, evidence against the member? They are operations that the register takes.
func areProven(r api.Register, ops []api.HeaderOp) bool {
	for _, op := range ops {
		if op.Kind != api.OpSlash {
			continue
		}
		if slash.Check(api.Evidence{Key: keyOf(r, op.Validator), A: op.Evidence[0], B: op.Evidence[1]}) != api.OK {
			return false
		}
	}
	return true
}

// judgeVote judges a vote.
func (s *store) judgeVote(i api.Input) (change, api.Errno) {
	v, r := i.Vote, s.registers[i.Vote.Target.Name]
	key, stake := keyOf(r, v.Validator), registry.Stake(r, v.Validator)
	// A signature is looked at between what the pool tells: where the key has a vote of that link it need not be, and where the pool is full it is ahead of that.
	pooled := func() api.Errno { return s.pool.Check(v, key, stake) }
	e := firstOf(
		when(api.ErrFault, s.isAtFault),
		when(api.ErrStale, s.isStale),
		when(api.ErrArg, func() bool { return !codec.MayVote(v) }),
		when(api.ErrLink, func() bool { return !s.leads(pool.LinkOf(v)) }),
		when(api.ErrEpoch, func() bool { return s.isBeyond(v.Target.Epoch) }),
		when(api.ErrIdle, func() bool { return !registry.Active(r, v.Validator) }),
		when(api.ErrExists, func() bool { return pooled() == api.ErrExists }),
		when(api.ErrSig, func() bool { return slash.Signed(v, key) != api.OK }),
		pooled,
	)
	if e != api.OK {
		return nil, e
	}
	return func() api.Point {
		s.takeVote(v, r)
		return api.Point{}
	}, api.OK
}

// leads: does a link lead from an ancestor to a header, both of which are known?
func (s *store) leads(l api.Link) bool {
	return l.Source != l.Target && s.chain.Knows(l.Source) && s.isOnward(l.Target, l.Source)
}

// isOnward: is a checkpoint known, and does it descend from another one, or is it that one?
func (s *store) isOnward(p, from api.Point) bool {
	return s.chain.Knows(p) && s.chain.Under(p.Name, from.Name)
}

// judgeReading judges a reading of a clock.
func (s *store) judgeReading(i api.Input) (change, api.Errno) {
	if !s.clock.Asks(i.Reading) {
		return nil, api.ErrIdle
	}
	return func() api.Point {
		s.takeReading(i.Reading)
		return api.Point{}
	}, api.OK
}

// judgeAnchor judges an anchor.
func (s *store) judgeAnchor(i api.Input) (change, api.Errno) {
	a := i.Anchor
	var begun *store
	e := firstOf(
		when(api.ErrFault, s.isAtFault),
		when(api.ErrState, func() bool { return !s.isStale() }),
		func() (e api.Errno) {
			begun, e = begin(a, s.clock.At())
			return e
		},
		when(api.ErrLink, func() bool { return !s.isOnward(a.Point, s.final) }),
		when(api.ErrStale, func() bool { return begun.isStale() }),
	)
	if e != api.OK {
		return nil, e
	}
	return func() api.Point {
		*s = *begun
		return api.Point{}
	}, api.OK
}
