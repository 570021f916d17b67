package state

import (
	"bytes"
	"crypto/sha256"
	"encoding/binary"
	"maps"
	"math/big"
	"slices"

	"landmark/api"
	"landmark/codec"
	"landmark/key"
	"landmark/registry"
)

// model is the chapter's words written anew: an anchor, and what was accepted since it came, which is gone over again for each answer. Of the layers below it asks names, what may be, registers and signatures of single texts.
type model struct {
	anchor    api.Anchor
	at        uint64
	told      api.Point
	fault     bool
	inputs    []api.Input
	strong    []api.Link
	votes     []api.Signed
	headers   []api.Header
	points    map[api.Hash]api.Point
	parents   map[api.Hash]api.Hash
	registers map[api.Hash]api.Register
}

const mostEpoch = 4611686018427387904

func newModel(a api.Anchor) *model {
	r, _ := registry.First(a)
	return &model{
		anchor: a, at: a.Point.Epoch, told: a.Point,
		points:    map[api.Hash]api.Point{a.Point.Name: a.Point},
		parents:   map[api.Hash]api.Hash{},
		registers: map[api.Hash]api.Register{a.Point.Name: r},
	}
}

func (m *model) copied() *model {
	c := *m
	c.inputs, c.strong, c.votes, c.headers = slices.Clone(m.inputs), slices.Clone(m.strong), slices.Clone(m.votes), slices.Clone(m.headers)
	c.points, c.parents, c.registers = maps.Clone(m.points), maps.Clone(m.parents), maps.Clone(m.registers)
	return &c
}

// endOf is where an anchor's time ends.
func endOf(a api.Anchor) uint64 {
	twice := new(big.Int).Lsh(new(big.Int).SetUint64(a.Churn), 1)
	window := new(big.Int).Quo(new(big.Int).SetUint64(a.Decay), twice)
	return window.Add(window, new(big.Int).SetUint64(a.Point.Epoch)).Uint64()
}

func (m *model) stale() bool { return m.at > endOf(m.anchor) }

func (m *model) mode() api.Mode {
	switch {
	case m.fault:
		return 2
	case m.stale():
		return 1
	}
	return 0
}

func (m *model) knows(p api.Point) bool {
	known, is := m.points[p.Name]
	return is && known.Epoch == p.Epoch
}

// path is a known header, its parent, and so on, down to the anchor.
func (m *model) path(name api.Hash) []api.Point {
	var l []api.Point
	for {
		l = append(l, m.points[name])
		if name == m.anchor.Point.Name {
			return l
		}
		name = m.parents[name]
	}
}

// onward is whether a known point is another one, or descends from it.
func (m *model) onward(p, from api.Point) bool {
	return m.knows(p) && slices.Contains(m.path(p.Name), from)
}

// judge is the error of an input, by the chapter's order.
func (m *model) judge(i api.Input) api.Errno {
	switch i.Kind {
	case 1:
		return m.judgeHeader(i.Header)
	case 2:
		return m.judgeVote(i.Vote)
	case 3:
		if i.Reading <= m.at {
			return api.ErrIdle
		}
		return api.OK
	case 4:
		return m.judgeAnchor(i.Anchor)
	}
	return api.ErrArg
}

func (m *model) judgeHeader(h api.Header) api.Errno {
	name, wrong := codec.Name(h)
	_, exists := m.points[name]
	parent, isKnown := m.points[h.Parent]
	switch {
	case m.fault:
		return api.ErrFault
	case wrong != api.OK:
		return api.ErrArg
	case exists:
		return api.ErrExists
	case !isKnown:
		return api.ErrParent
	case h.Epoch <= parent.Epoch:
		return api.ErrEpoch
	case len(m.headers) >= 4096:
		return api.ErrFull
	}
	r := m.registers[h.Parent]
	if _, e := registry.Next(r, h, parent.Epoch); e != api.OK {
		return e
	}
	for _, op := range h.Ops {
		if op.Kind == 3 && !isEvidence(r.Members[op.Validator-1].Key, op.Evidence[0], op.Evidence[1]) {
			return api.ErrOp
		}
	}
	return api.OK
}

func (m *model) judgeVote(v api.Vote) api.Errno {
	r := m.registers[v.Target.Name]
	member := func() api.Member { return r.Members[v.Validator-1] }
	switch {
	case m.fault:
		return api.ErrFault
	case m.stale():
		return api.ErrStale
	case v.Validator < 1 || v.Validator > 64 || v.Source.Epoch > mostEpoch || v.Target.Epoch > mostEpoch || len(v.Sig) > 4096:
		return api.ErrArg
	case !m.knows(v.Source) || !m.onward(v.Target, v.Source) || v.Source == v.Target:
		return api.ErrLink
	case v.Target.Epoch > endOf(m.anchor):
		return api.ErrEpoch
	case v.Validator > len(r.Members) || member().Status != 2 && member().Status != 3:
		return api.ErrIdle
	case slices.ContainsFunc(m.votes, func(one api.Signed) bool { return one.Key == member().Key && linkOf(one.Vote) == linkOf(v) }):
		return api.ErrExists
	case !isSigned(member().Key, v):
		return api.ErrSig
	case len(m.votes) >= 65536:
		return api.ErrFull
	}
	return api.OK
}

func (m *model) judgeAnchor(a api.Anchor) api.Errno {
	switch {
	case m.fault:
		return api.ErrFault
	case !m.stale():
		return api.ErrState
	case !codec.MayAnchor(a):
		return api.ErrArg
	case !m.onward(a.Point, m.told):
		return api.ErrLink
	case m.at > endOf(a):
		return api.ErrStale
	}
	return api.OK
}

// apply takes an input that is not refused: of a header its checkpoint.
func (m *model) apply(i api.Input) api.Point {
	switch i.Kind {
	case 1:
		return m.applyHeader(i.Header)
	case 2:
		m.applyVote(i.Vote)
	case 3:
		m.at = i.Reading
		m.inputs = append(m.inputs, api.Input{Kind: 3, Reading: i.Reading})
	case 4:
		at := m.at
		*m = *newModel(cloneInput(i).Anchor)
		if at > m.at {
			m.apply(api.Input{Kind: 3, Reading: at})
		}
	}
	return api.Point{}
}

func (m *model) applyHeader(h api.Header) api.Point {
	h = cloneInput(api.Input{Kind: 1, Header: h}).Header
	name, _ := codec.Name(h)
	r, _ := registry.Next(m.registers[h.Parent], h, m.points[h.Parent].Epoch)
	m.registers[name], m.parents[name], m.points[name] = r, h.Parent, api.Point{Epoch: h.Epoch, Name: name}
	m.headers = append(m.headers, h)
	m.inputs = append(m.inputs, api.Input{Kind: 1, Header: h})
	return m.points[name]
}

func (m *model) applyVote(v api.Vote) {
	v = cloneInput(api.Input{Kind: 2, Vote: v}).Vote
	one := m.registers[v.Target.Name].Members[v.Validator-1]
	m.votes = append(m.votes, api.Signed{Vote: v, Key: one.Key, Stake: one.Stake})
	m.inputs = append(m.inputs, api.Input{Kind: 2, Vote: v})
	if m.isStrong(linkOf(v)) && !slices.Contains(m.strong, linkOf(v)) {
		m.strong = append(m.strong, linkOf(v))
	}
	final := m.final()
	for _, p := range final {
		for _, q := range final {
			m.fault = m.fault || !m.onward(p, q) && !m.onward(q, p)
		}
	}
	if !m.fault {
		m.told = final[len(final)-1]
	}
}

// isStrong is whether what counts for a link is two thirds of what is active at its target, by great numbers.
func (m *model) isStrong(l api.Link) bool {
	weight, total := new(big.Int), new(big.Int)
	for _, one := range m.votes {
		if linkOf(one.Vote) == l {
			weight.Add(weight, new(big.Int).SetUint64(one.Stake))
		}
	}
	for _, one := range m.registers[l.Target.Name].Members {
		if one.Status == 2 || one.Status == 3 {
			total.Add(total, new(big.Int).SetUint64(one.Stake))
		}
	}
	three, two := big.NewInt(3), big.NewInt(2)
	return weight.Sign() > 0 && three.Mul(three, weight).Cmp(two.Mul(two, total)) >= 0
}

// justified are the anchor, and each target of a strong link from one of them, by Epoch and Name.
func (m *model) justified() []api.Point {
	found := []api.Point{m.anchor.Point}
	for isMore := true; isMore; {
		isMore = false
		for _, l := range m.strong {
			if slices.Contains(found, l.Source) && !slices.Contains(found, l.Target) {
				found, isMore = append(found, l.Target), true
			}
		}
	}
	slices.SortFunc(found, comparePoints)
	return found
}

func (m *model) final() []api.Point {
	return slices.DeleteFunc(m.justified(), func(p api.Point) bool {
		leads := func(l api.Link) bool { return l.Source == p && l.Target.Epoch-p.Epoch == 1 }
		return p != m.anchor.Point && !slices.ContainsFunc(m.strong, leads)
	})
}

// evidence are, of each key, the first two of its votes that break the rules, by the first ones' places.
func (m *model) evidence() []api.Evidence {
	var l []api.Evidence
	done := map[api.Hash]bool{}
	for i, a := range m.votes {
		for _, b := range m.votes[i+1:] {
			if b.Key == a.Key && !done[a.Key] && doBreak(a.Vote, b.Vote) {
				done[a.Key] = true
				l = append(l, api.Evidence{Key: a.Key, A: a.Vote, B: b.Vote})
			}
		}
	}
	return l
}

// pointAt is the checkpoint of the n-th header, from 0 on.
func (m *model) pointAt(n int) api.Point {
	name, _ := codec.Name(m.headers[n])
	return m.points[name]
}

// toldInputs are all that were accepted, but of the readings the last one alone.
func (m *model) toldInputs() []api.Input {
	var l []api.Input
	for n, i := range m.inputs {
		isLater := func(o api.Input) bool { return o.Kind == 3 }
		if i.Kind != 3 || !slices.ContainsFunc(m.inputs[n+1:], isLater) {
			l = append(l, i)
		}
	}
	return l
}

func linkOf(v api.Vote) api.Link { return api.Link{Source: v.Source, Target: v.Target} }

func comparePoints(a, b api.Point) int {
	bytesOf := func(p api.Point) []byte { return append(binary.BigEndian.AppendUint64(nil, p.Epoch), p.Name[:]...) }
	return bytes.Compare(bytesOf(a), bytesOf(b))
}

// doBreak is whether two votes break the rules, by chapter 14's words.
func doBreak(a, b api.Vote) bool {
	within := func(in, out api.Vote) bool {
		return out.Source.Epoch < in.Source.Epoch && in.Target.Epoch < out.Target.Epoch
	}
	return linkOf(a) != linkOf(b) && (a.Target.Epoch == b.Target.Epoch || within(a, b) || within(b, a))
}

// hashOf is the hash of what is signed of a vote, by chapter 9's words.
func hashOf(v api.Vote) api.Hash {
	b := append([]byte("vote"), byte(v.Validator))
	for _, p := range []api.Point{v.Source, v.Target} {
		b = append(binary.BigEndian.AppendUint64(b, p.Epoch), p.Name[:]...)
	}
	return sha256.Sum256(b)
}

func isSigned(root api.Hash, v api.Vote) bool {
	return key.Check(root, int(v.Target.Epoch%16), hashOf(v), v.Sig) == api.OK
}

func isEvidence(root api.Hash, a, b api.Vote) bool {
	return doBreak(a, b) && isSigned(root, a) && isSigned(root, b)
}
