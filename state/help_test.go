package state

import (
	"bytes"
	"slices"
	"strconv"
	"sync"
	"testing"

	"landmark/api"
	"landmark/codec"
	"landmark/key"
	"landmark/registry"
)

// allKeys are the keys of validators: they are reckoned once for all tests.
var allKeys = sync.OnceValue(func() []*key.Key {
	var l []*key.Key
	for n := range 70 {
		l = append(l, key.Make(key.Seed("validator "+strconv.Itoa(n+1))))
	}
	return l
})

// keyAt is the key n, from 1 on.
func keyAt(n int) *key.Key { return allKeys()[n-1] }

func rootAt(n int) api.Hash { return keyAt(n).Root() }

// keyOfRoot is the key of a root.
func keyOfRoot(t *testing.T, root api.Hash) *key.Key {
	t.Helper()
	for _, k := range allKeys() {
		if k.Root() == root {
			return k
		}
	}
	t.Fatal("nobody has that key")
	return nil
}

// anchorOf is an anchor of the epoch 5, of the first keys, with these stakes.
func anchorOf(churn, decay uint64, stakes ...uint64) api.Anchor {
	a := api.Anchor{Point: api.Point{Epoch: 5, Name: api.Hash{0: 7, 31: 1}}, Churn: churn, Decay: decay}
	for i, stake := range stakes {
		a.Validators = append(a.Validators, api.Validator{Key: rootAt(i + 1), Stake: stake})
	}
	return a
}

// four is the chapter's anchor: four of stake 1, for ten epochs.
func four() api.Anchor { return anchorOf(1, 20, 1, 1, 1, 1) }

func headerOf(up api.Point, epoch uint64, ops ...api.HeaderOp) api.Input {
	return api.Input{Kind: api.InputHeader, Header: api.Header{Parent: up.Name, Epoch: epoch, Ops: ops}}
}

func readingOf(reading uint64) api.Input {
	return api.Input{Kind: api.InputClock, Reading: reading}
}

func anchorInput(a api.Anchor) api.Input { return api.Input{Kind: api.InputAnchor, Anchor: a} }

func deposit(n int, stake uint64) api.HeaderOp {
	return api.HeaderOp{Kind: api.OpDeposit, Key: rootAt(n), Stake: stake}
}

func exit(n int) api.HeaderOp { return api.HeaderOp{Kind: api.OpExit, Validator: n} }

func slashOf(n int, a, b api.Input) api.HeaderOp {
	return api.HeaderOp{Kind: api.OpSlash, Validator: n, Evidence: []api.Vote{a.Vote, b.Vote}}
}

// voteBy is a vote of the validator n that a key signs.
func voteBy(t *testing.T, k *key.Key, n int, source, target api.Point) api.Input {
	t.Helper()
	v := api.Vote{Validator: n, Source: source, Target: target}
	sig, e := k.Sign(int(target.Epoch%16), hashOf(v))
	if e != api.OK {
		t.Fatal(e)
	}
	v.Sig = sig
	return api.Input{Kind: api.InputVote, Vote: v}
}

// voteOf is the vote of the validator n that has the key n.
func voteOf(t *testing.T, n int, source, target api.Point) api.Input {
	t.Helper()
	return voteBy(t, keyAt(n), n, source, target)
}

// changed is x with a change; the change is a copy's.
func changed[T any](x T, change func(*T)) T {
	change(&x)
	return x
}

// cloneInput is an input in new memory: what its kind names is taken through its bytes.
func cloneInput(i api.Input) api.Input {
	c := api.Input{Kind: i.Kind}
	switch i.Kind {
	case api.InputHeader:
		b, _ := codec.HeaderBytes(i.Header)
		c.Header, _ = codec.HeaderOf(b)
	case api.InputVote:
		b, _ := codec.VoteBytes(i.Vote)
		c.Vote, _ = codec.VoteOf(b)
	case api.InputClock:
		c.Reading = i.Reading
	case api.InputAnchor:
		b, _ := codec.AnchorBytes(i.Anchor)
		c.Anchor, _ = codec.AnchorOf(b)
	}
	return c
}

func sameInput(a, b api.Input) bool {
	return a.Kind == b.Kind && a.Reading == b.Reading && codec.SameHeader(a.Header, b.Header) && codec.SameVote(a.Vote, b.Vote) && codec.SameAnchor(a.Anchor, b.Anchor)
}

func sameSigned(a, b api.Signed) bool {
	return a.Key == b.Key && a.Stake == b.Stake && codec.SameVote(a.Vote, b.Vote)
}

func sameEvidence(a, b api.Evidence) bool {
	return a.Key == b.Key && codec.SameVote(a.A, b.A) && codec.SameVote(a.B, b.B)
}

func sameRegister(a, b api.Register) bool {
	return slices.Equal(a.Members, b.Members) && slices.Equal(a.Coming, b.Coming) && slices.Equal(a.Going, b.Going) && a.Churn == b.Churn
}

// isSame asks Same from both sides, and wants both to answer the same.
func isSame(t *testing.T, a, b *State) bool {
	t.Helper()
	is := Same(a, b)
	if Same(b, a) != is {
		t.Fatalf("Same: %v, and %v the other way round", is, !is)
	}
	return is
}

// pair is a state, and the model that it is held against.
type pair struct {
	t *testing.T
	s *State
	m *model
}

func newPair(t *testing.T, a api.Anchor) *pair {
	t.Helper()
	s, e := New(a)
	if s == nil || e != api.OK {
		t.Fatalf("New: %v", e)
	}
	return &pair{t, s, newModel(a)}
}

// copied is a copy, and a model of its own.
func (o *pair) copied() *pair {
	o.t.Helper()
	c := o.s.Copy()
	if c == nil || c == o.s {
		o.t.Fatal("Copy is none of its own")
	}
	return &pair{o.t, c, o.m.copied()}
}

// give checks and then applies an input, to both, and wants both to answer the same.
func (o *pair) give(i api.Input) (api.Point, api.Errno) {
	o.t.Helper()
	want := o.m.judge(i)
	for range 2 {
		if e := o.s.Check(i); e != want {
			o.t.Fatalf("Check of kind %d: %v; want %v", i.Kind, e, want)
		}
	}
	var point api.Point
	if want == api.OK {
		point = o.m.apply(i)
	}
	p, e := o.s.Apply(i)
	if p != point || e != want {
		o.t.Fatalf("Apply of kind %d: %v, %v; want %v, %v", i.Kind, p, e, point, want)
	}
	return p, e
}

// take gives inputs that are to be accepted; it tells the last one's checkpoint.
func (o *pair) take(inputs ...api.Input) api.Point {
	o.t.Helper()
	var last api.Point
	for n, i := range inputs {
		p, e := o.give(i)
		if e != api.OK {
			o.t.Fatalf("input %d of kind %d: %v", n, i.Kind, e)
		}
		last = p
	}
	return last
}

// refuse gives inputs that are to be refused, and wants nothing to have changed.
func (o *pair) refuse(want api.Errno, inputs ...api.Input) {
	o.t.Helper()
	for n, i := range inputs {
		ahead := o.s.Copy()
		if _, e := o.give(i); e != want {
			o.t.Fatalf("input %d of kind %d: %v; want %v", n, i.Kind, e, want)
		}
		if !isSame(o.t, o.s, ahead) {
			o.t.Fatalf("input %d of kind %d was refused, and has changed something", n, i.Kind)
		}
	}
	o.holdLooks()
}

// header gives a header that is to be accepted.
func (o *pair) header(up api.Point, epoch uint64, ops ...api.HeaderOp) api.Point {
	o.t.Helper()
	return o.take(headerOf(up, epoch, ops...))
}

// line gives headers, each under the one ahead of it, of these epochs.
func (o *pair) line(up api.Point, epochs ...uint64) []api.Point {
	o.t.Helper()
	l := []api.Point{up}
	for i, epoch := range epochs {
		l = append(l, o.header(l[i], epoch))
	}
	return l
}

// vote gives the votes of validators that are to be accepted, each signed by its key.
func (o *pair) vote(source, target api.Point, numbers ...int) {
	o.t.Helper()
	for _, n := range numbers {
		k := keyOfRoot(o.t, o.m.registers[target.Name].Members[n-1].Key)
		o.take(voteBy(o.t, k, n, source, target))
	}
}

// hold wants all looks to tell what the model tells, and what was accepted to say the same state.
func (o *pair) hold() {
	o.t.Helper()
	o.holdLooks()
	o.rebuilt().holdLooks()
}

// rebuilt is a state of the anchor that was given the inputs: it is the same.
func (o *pair) rebuilt() *pair {
	o.t.Helper()
	s, e := New(o.s.Anchor())
	if e != api.OK {
		o.t.Fatalf("New of the state's anchor: %v", e)
	}
	for n, i := range o.s.Inputs() {
		if _, e := s.Apply(i); e != api.OK {
			o.t.Fatalf("input %d of kind %d of the state's: %v", n, i.Kind, e)
		}
	}
	if !isSame(o.t, s, o.s) {
		o.t.Fatal("a state that was given the inputs is not the same")
	}
	return &pair{o.t, s, o.m}
}

// holdLooks holds each answer.
func (o *pair) holdLooks() {
	o.t.Helper()
	o.holdTold()
	o.holdRegisters()
	o.holdLists()
	o.holdParts()
}

func (o *pair) holdTold() {
	o.t.Helper()
	point, code := o.m.told, api.OK
	if o.m.mode() == api.ModeStale {
		point, code = api.Point{}, api.ErrStale
	}
	if p, e := o.s.FinalPoint(); p != point || e != code {
		o.t.Fatalf("FinalPoint: %v, %v; want %v, %v", p, e, point, code)
	}
	if l, want := o.s.Justified(), o.m.justified(); !slices.Equal(l, want) {
		o.t.Fatalf("Justified: %v; want %v", l, want)
	}
	if mode := o.s.Mode(); mode != o.m.mode() {
		o.t.Fatalf("Mode: %v; want %v", mode, o.m.mode())
	}
	if a := o.s.Anchor(); !codec.SameAnchor(a, o.m.anchor) {
		o.t.Fatalf("Anchor: %v; want %v", a, o.m.anchor)
	}
	if at, ends := o.s.Clock(), o.s.Ends(); at != o.m.at || ends != endOf(o.m.anchor) {
		o.t.Fatalf("Clock %d, Ends %d; want %d, %d", at, ends, o.m.at, endOf(o.m.anchor))
	}
}

func (o *pair) holdRegisters() {
	o.t.Helper()
	for name, want := range o.m.registers {
		if r, e := o.s.Register(name); e != api.OK || !sameRegister(r, want) {
			o.t.Fatalf("Register of epoch %d: %v, %v; want %v", o.m.points[name].Epoch, r, e, want)
		}
		other := name
		other[30] ^= 1
		if r, e := o.s.Register(other); e != api.ErrNone || !sameRegister(r, api.Register{}) {
			o.t.Fatalf("Register of no name: %v, %v", r, e)
		}
	}
	if _, e := o.s.Register(api.Hash{}); e != api.ErrNone && o.m.anchor.Point.Name != (api.Hash{}) {
		o.t.Fatalf("Register of noughts: %v", e)
	}
}

func (o *pair) holdLists() {
	o.t.Helper()
	if l, want := o.s.Evidence(), o.m.evidence(); !slices.EqualFunc(l, want, sameEvidence) {
		o.t.Fatalf("Evidence: %d; want %d", len(l), len(want))
	}
	if l, want := o.s.Inputs(), o.m.toldInputs(); !slices.EqualFunc(l, want, sameInput) {
		o.t.Fatalf("Inputs: %v; want %v", kindsOf(l), kindsOf(want))
	}
}

// holdParts holds the copies of the chain, the pool and the gadget.
func (o *pair) holdParts() {
	o.t.Helper()
	c, p, g := o.s.Chain(), o.s.Pool(), o.s.Gadget()
	if c == nil || p == nil || g == nil {
		o.t.Fatal("no chain, no pool, or no gadget")
	}
	if l := listOf(c.All()); c.Anchor() != o.m.anchor.Point || c.Len() != len(o.m.headers) || !slices.EqualFunc(l, o.m.headers, codec.SameHeader) {
		o.t.Fatalf("Chain: %v, %d headers; want %d", c.Anchor(), len(l), len(o.m.headers))
	}
	if l := listOf(p.All()); p.Len() != len(o.m.votes) || !slices.EqualFunc(l, o.m.votes, sameSigned) {
		o.t.Fatalf("Pool: %d votes; want %d", len(l), len(o.m.votes))
	}
	if l := g.Links(); !slices.Equal(l, o.m.strong) {
		o.t.Fatalf("Gadget: %v; want %v", l, o.m.strong)
	}
	if !slices.Equal(g.AllJustified(), o.m.justified()) || !slices.Equal(g.AllFinal(), o.m.final()) {
		o.t.Fatal("Gadget: other ones are justified, or final")
	}
}

func kindsOf(l []api.Input) []string {
	var kinds []string
	for _, i := range l {
		text := []string{"none", "header ", "vote ", "reading ", "anchor "}[i.Kind]
		switch i.Kind {
		case api.InputHeader:
			text += strconv.FormatUint(i.Header.Epoch, 10)
		case api.InputVote:
			text += strconv.Itoa(i.Vote.Validator)
		case api.InputClock:
			text += strconv.FormatUint(i.Reading, 10)
		}
		kinds = append(kinds, text)
	}
	return kinds
}

// memberOf is a member of the register behind a header.
func (o *pair) memberOf(p api.Point, n int) api.Member {
	o.t.Helper()
	r, e := o.s.Register(p.Name)
	if e != api.OK || n > len(r.Members) {
		o.t.Fatalf("member %d: %v, of %d", n, e, len(r.Members))
	}
	return r.Members[n-1]
}

// wantFinal wants a checkpoint to be told as final.
func (o *pair) wantFinal(want api.Point) {
	o.t.Helper()
	if p, e := o.s.FinalPoint(); p != want || e != api.OK {
		o.t.Fatalf("FinalPoint: epoch %d, %v; want epoch %d", p.Epoch, e, want.Epoch)
	}
	o.holdLooks()
}

func (o *pair) wantMode(want api.Mode) {
	o.t.Helper()
	if mode := o.s.Mode(); mode != want {
		o.t.Fatalf("Mode: %v; want %v", mode, want)
	}
	o.holdLooks()
}

// wantJustified wants just these checkpoints, by Epoch and Name.
func (o *pair) wantJustified(want ...api.Point) {
	o.t.Helper()
	if l := o.s.Justified(); !slices.Equal(l, want) {
		o.t.Fatalf("Justified: %v; want %v", l, want)
	}
	o.holdLooks()
}

func allOf(x byte) api.Hash { return api.Hash(bytes.Repeat([]byte{x}, 32)) }

// newAnchor is an anchor of a header's register, for so many epochs.
func (o *pair) newAnchor(p api.Point, window uint64) api.Anchor {
	o.t.Helper()
	r, e := o.s.Register(p.Name)
	if e != api.OK {
		o.t.Fatal(e)
	}
	a, e := registry.Anchor(r, p, 2*r.Churn*window)
	if e != api.OK {
		o.t.Fatal(e)
	}
	return a
}

// forked is a state at fault: of the epochs 5, 6, 7 on two branches, by the votes of all four. It tells the first branch's 6 and 7, and the other one's.
func forked(t *testing.T) (*pair, []api.Point, []api.Point) {
	t.Helper()
	o := newPair(t, four())
	a := o.line(o.m.anchor.Point, 6, 7)
	b := o.line(o.m.anchor.Point, 8, 9)
	o.vote(a[0], a[1], 1, 2, 3)
	o.vote(a[1], a[2], 1, 2, 3)
	o.vote(b[0], b[1], 2, 3, 4)
	o.vote(b[1], b[2], 2, 3, 4)
	o.wantMode(api.ModeFault)
	return o, a, b
}

// staleOne is a state beyond its anchor's time, of which 6 is final, 7 justified, 8 neither.
func staleOne(t *testing.T) (*pair, []api.Point) {
	t.Helper()
	o := newPair(t, four())
	l := o.line(o.m.anchor.Point, 6, 7, 8)
	o.vote(l[0], l[1], 1, 2, 3)
	o.vote(l[1], l[2], 1, 2, 3)
	o.take(readingOf(16))
	o.wantMode(api.ModeStale)
	return o, l
}
