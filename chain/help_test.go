package chain

import (
	"bytes"
	"fmt"
	"math/rand/v2"
	"reflect"
	"slices"
	"testing"

	"landmark/api"
	"landmark/codec"
)

// entry is the anchor (its parent is -1) or a header of a model. Headers are kept as bytes, which nobody changes.
type entry struct {
	point  api.Point
	parent int
	bytes  []byte
}

// model is the chapter's words written anew: a list that is gone over one by one, the anchor first.
type model []entry

func modelOf(anchor api.Point) model { return model{{point: anchor, parent: -1}} }

// find is the place of a name; -1: it is not known.
func (m model) find(name api.Hash) int {
	return slices.IndexFunc(m, func(e entry) bool { return e.point.Name == name })
}

// judge is the error of an Add, by the chapter's order, or the checkpoint.
func (m model) judge(h api.Header) (api.Point, api.Errno) {
	if !codec.MayHeader(h) {
		return api.Point{}, api.ErrArg
	}
	p, parent := pointOf(h), m.find(h.Parent)
	if m.find(p.Name) >= 0 {
		return api.Point{}, api.ErrExists
	}
	if parent < 0 {
		return api.Point{}, api.ErrParent
	}
	if m[parent].point.Epoch >= h.Epoch {
		return api.Point{}, api.ErrEpoch
	}
	if len(m) > 4096 {
		return api.Point{}, api.ErrFull
	}
	return p, api.OK
}

// with is the model with a header more, which may be added.
func (m model) with(h api.Header) model {
	return append(m, entry{point: pointOf(h), parent: m.find(h.Parent), bytes: bytesOf(h)})
}

// path is from the anchor on to a place.
func (m model) path(place int) []api.Point {
	var l []api.Point
	for ; place >= 0; place = m[place].parent {
		l = append([]api.Point{m[place].point}, l...)
	}
	return l
}

// children are the points of those whose parent a place is.
func (m model) children(place int) []api.Point {
	var l []api.Point
	for _, e := range m {
		if e.parent == place && place >= 0 {
			l = append(l, e.point)
		}
	}
	return l
}

func (m model) tips() []api.Point {
	var l []api.Point
	for place, e := range m {
		if len(m.children(place)) == 0 {
			l = append(l, e.point)
		}
	}
	return l
}

// points are all, the anchor first.
func (m model) points() []api.Point {
	var l []api.Point
	for _, e := range m {
		l = append(l, e.point)
	}
	return l
}

// pointOf is the checkpoint of a header that may be.
func pointOf(h api.Header) api.Point {
	name, e := codec.Name(h)
	if e != api.OK {
		panic(e)
	}
	return api.Point{Epoch: h.Epoch, Name: name}
}

// bytesOf is a header's bytes.
func bytesOf(h api.Header) []byte {
	b, e := codec.HeaderBytes(h)
	if e != api.OK {
		panic(e)
	}
	return b
}

// pair is a chain, and the model that it is held against.
type pair struct {
	t *testing.T
	c *Chain
	m model
}

func newPair(t *testing.T, anchor api.Point) *pair {
	t.Helper()
	c, e := New(anchor)
	if e != api.OK || c == nil {
		t.Fatalf("New(%v): %v", anchor, e)
	}
	return &pair{t, c, modelOf(anchor)}
}

// give checks and then adds a header to both, and wants both to tell the same of it, ahead of it and behind.
func (p *pair) give(h api.Header) (api.Point, api.Errno) {
	p.t.Helper()
	want, code := p.m.judge(h)
	count := p.c.Len()
	for range 2 {
		if got, e := p.c.Check(h); got != want || e != code {
			p.t.Fatalf("Check of epoch %d: %v, %v; want %v, %v", h.Epoch, got, e, want, code)
		}
	}
	if p.c.Len() != count || code == api.OK && p.c.Knows(want) {
		p.t.Fatal("Check has added something")
	}
	if got, e := p.c.Add(h); got != want || e != code {
		p.t.Fatalf("Add of epoch %d: %v, %v; want %v, %v", h.Epoch, got, e, want, code)
	}
	if code == api.OK {
		p.m = p.m.with(h)
	}
	return want, code
}

// add gives a header that is to be taken.
func (p *pair) add(h api.Header) api.Point {
	p.t.Helper()
	got, e := p.give(h)
	if e != api.OK {
		p.t.Fatalf("a header of epoch %d: %v", h.Epoch, e)
	}
	return got
}

// under adds a header without operations.
func (p *pair) under(parent api.Point, epoch uint64) api.Point {
	p.t.Helper()
	return p.add(api.Header{Parent: parent.Name, Epoch: epoch})
}

// refuse gives a header that is to be refused, and wants nothing to have changed.
func (p *pair) refuse(h api.Header, want api.Errno) {
	p.t.Helper()
	if _, e := p.give(h); e != want {
		p.t.Fatalf("a header of epoch %d: %v; want %v", h.Epoch, e, want)
	}
	p.hold()
}

// line adds headers without operations, one under the other, of these epochs.
func (p *pair) line(parent api.Point, epochs ...uint64) []api.Point {
	p.t.Helper()
	var l []api.Point
	for _, epoch := range epochs {
		parent = p.under(parent, epoch)
		l = append(l, parent)
	}
	return l
}

// hold wants all looks to tell what the model tells: of all names, of some that are not known, and of all pairs.
func (p *pair) hold() {
	p.t.Helper()
	p.holdWhole()
	for place := range p.m {
		p.holdName(place)
	}
	for _, name := range p.unknown() {
		p.holdUnknown(name)
	}
}

// unknown is names that are not known, those of noughts, of ones and like known ones among them.
func (p *pair) unknown() []api.Hash {
	last := p.m[len(p.m)-1].point
	l := []api.Hash{{}, {1}, {31: 1}, api.Hash(bytes.Repeat([]byte{255}, 32)), pointOf(api.Header{Parent: last.Name, Epoch: last.Epoch/2 + 77, Ops: ops()}).Name}
	for _, point := range []api.Point{p.m[0].point, last} {
		for _, i := range []int{0, 15, 31} {
			name := point.Name
			name[i] ^= 128
			l = append(l, name)
		}
	}
	return slices.DeleteFunc(l, func(name api.Hash) bool { return p.m.find(name) >= 0 })
}

// holdWhole holds what is asked of the chain as a whole.
func (p *pair) holdWhole() {
	p.t.Helper()
	if p.c.Anchor() != p.m[0].point {
		p.t.Fatalf("Anchor: %v", p.c.Anchor())
	}
	if p.c.Len() != len(p.m)-1 {
		p.t.Fatalf("Len: %d; want %d", p.c.Len(), len(p.m)-1)
	}
	if tips := p.c.Tips(); !slices.Equal(tips, p.m.tips()) {
		p.t.Fatalf("Tips: %v; want %v", tips, p.m.tips())
	}
	n := 0
	for i, h := range p.c.All() {
		if i != n || !bytes.Equal(bytesOf(h), p.m[n+1].bytes) {
			p.t.Fatalf("All: the number %d at place %d", i, n)
		}
		n++
	}
	if n != len(p.m)-1 {
		p.t.Fatalf("All: %d; want %d", n, len(p.m)-1)
	}
}

// holdName holds what is asked of a known name, and of it and each other one.
func (p *pair) holdName(place int) {
	p.t.Helper()
	e, c := p.m[place], p.c
	name := e.point.Name
	if epoch, code := c.Epoch(name); epoch != e.point.Epoch || code != api.OK {
		p.t.Fatalf("Epoch: %d, %v; want %d", epoch, code, e.point.Epoch)
	}
	var parent api.Hash
	wantCode := api.ErrNone
	if place > 0 {
		parent, wantCode = p.m[e.parent].point.Name, api.OK
	}
	if got, code := c.Parent(name); got != parent || code != wantCode {
		p.t.Fatalf("Parent: %x, %v; want %x, %v", got, code, parent, wantCode)
	}
	switch h, code := c.Header(name); {
	case code != wantCode, place == 0 && !reflect.DeepEqual(h, api.Header{}), place > 0 && !bytes.Equal(bytesOf(h), e.bytes):
		p.t.Fatalf("Header: %v, %v", h, code)
	}
	path := p.m.path(place)
	if got, code := c.Path(name); !slices.Equal(got, path) || code != api.OK {
		p.t.Fatalf("Path: %v, %v; want %v", got, code, path)
	}
	if got, want := c.Children(name), p.m.children(place); !slices.Equal(got, want) {
		p.t.Fatalf("Children: %v; want %v", got, want)
	}
	for _, epoch := range []uint64{0, 1, e.point.Epoch - 1, e.point.Epoch + 1, ^e.point.Epoch, api.MaxEpoch, 1<<64 - 1} {
		if c.Knows(api.Point{Epoch: epoch, Name: name}) != (epoch == e.point.Epoch) {
			p.t.Fatalf("Knows, of epoch %d at %d", e.point.Epoch, epoch)
		}
	}
	if !c.Knows(e.point) {
		p.t.Fatal("Knows")
	}
	for _, other := range p.m {
		if got, want := c.Under(name, other.point.Name), slices.Contains(path, other.point); got != want {
			p.t.Fatalf("Under, of epochs %d and %d: %v", e.point.Epoch, other.point.Epoch, got)
		}
		// At each epoch where the answer may change, and beside it.
		for _, epoch := range []uint64{other.point.Epoch - 1, other.point.Epoch, other.point.Epoch + 1} {
			p.holdAt(name, path, epoch)
		}
	}
	p.holdAt(name, path, 0)
	p.holdAt(name, path, api.MaxEpoch+1)
	p.holdAt(name, path, 1<<64-1)
}

// holdAt holds At against a path, gone over one by one.
func (p *pair) holdAt(name api.Hash, path []api.Point, epoch uint64) {
	p.t.Helper()
	want, code := api.Point{}, api.ErrNone
	for _, point := range path {
		if point.Epoch <= epoch {
			want, code = point, api.OK
		}
	}
	if got, e := p.c.At(name, epoch); got != want || e != code {
		p.t.Fatalf("At(%d): %v, %v; want %v, %v", epoch, got, e, want, code)
	}
}

// holdUnknown holds what is asked of a name that is not known.
func (p *pair) holdUnknown(name api.Hash) {
	p.t.Helper()
	c := p.c
	epoch, one := c.Epoch(name)
	parent, two := c.Parent(name)
	path, three := c.Path(name)
	h, four := c.Header(name)
	for i, code := range []api.Errno{one, two, three, four} {
		if code != api.ErrNone {
			p.t.Fatalf("of a name that is not known: %d: %v", i, code)
		}
	}
	if epoch != 0 || parent != (api.Hash{}) || len(path) != 0 || !reflect.DeepEqual(h, api.Header{}) || len(c.Children(name)) != 0 || c.Under(name, name) {
		p.t.Fatal("something of a name that is not known")
	}
	for _, e := range p.m {
		if c.Under(name, e.point.Name) || c.Under(e.point.Name, name) || c.Knows(api.Point{Epoch: e.point.Epoch, Name: name}) {
			p.t.Fatal("a name that is not known is under a known one, or the other way, or known")
		}
		if point, code := c.At(name, e.point.Epoch); point != (api.Point{}) || code != api.ErrNone {
			p.t.Fatalf("At of a name that is not known: %v, %v", point, code)
		}
	}
}

func allOf(x byte) api.Hash { return api.Hash(bytes.Repeat([]byte{x}, 32)) }

func vote(n int) api.Vote {
	return api.Vote{Validator: n, Source: api.Point{Epoch: 5, Name: allOf(7)}, Target: api.Point{Epoch: 6, Name: allOf(8)}, Sig: []byte("some sig")}
}

// ops is one of each kind.
func ops() []api.HeaderOp {
	return []api.HeaderOp{
		{Kind: api.OpDeposit, Key: allOf(9), Stake: 258},
		{Kind: api.OpExit, Validator: 4},
		{Kind: api.OpSlash, Validator: 3, Evidence: []api.Vote{vote(3), vote(4)}},
	}
}

// marked is an operation that makes a header unlike others of its parent and epoch.
func marked(n uint64) []api.HeaderOp {
	return []api.HeaderOp{{Kind: api.OpDeposit, Key: allOf(1), Stake: n + 1}}
}

// epochs is so many, from one on, with a gap between them.
func epochs(from, gap uint64, n int) []uint64 {
	var l []uint64
	for i := range uint64(n) {
		l = append(l, from+i*gap)
	}
	return l
}

// someHeader is mostly a header that may be added: of any parent, and an epoch near above it.
func someHeader(source *rand.Rand, m model) api.Header {
	parent := m[source.IntN(len(m))].point
	if source.IntN(2) == 0 {
		parent = m[len(m)-1].point
	}
	h := api.Header{Parent: parent.Name, Epoch: parent.Epoch + 1 + source.Uint64N(3)}
	switch source.IntN(12) {
	case 0:
		h.Ops = ops()
	case 1:
		h.Ops = marked(source.Uint64N(3))
	case 2:
		h.Epoch = parent.Epoch - source.Uint64N(3)
	case 3:
		h.Parent[source.IntN(32)] ^= 1
	case 4:
		h.Ops = []api.HeaderOp{{}}
	}
	return h
}

// expect wants an error.
func expect(t *testing.T, got, want api.Errno, why ...any) {
	t.Helper()
	if got != want {
		t.Errorf("%v; want %v: %s", got, want, fmt.Sprint(why...))
	}
}
