package codec

import (
	"bytes"
	"encoding/binary"
	"math"
	"math/rand/v2"
	"reflect"
	"slices"
	"testing"

	"landmark/api"
)

// What the chapter says, written anew over the library: the tests hold the package against it.

func textPoint(p api.Point) []byte {
	return append(binary.BigEndian.AppendUint64(nil, p.Epoch), p.Name[:]...)
}

func textLink(v api.Vote) []byte {
	return slices.Concat([]byte{byte(v.Validator)}, textPoint(v.Source), textPoint(v.Target))
}

func textVote(v api.Vote) []byte {
	return append(binary.BigEndian.AppendUint16(textLink(v), uint16(len(v.Sig))), v.Sig...)
}

func textOp(o api.HeaderOp) []byte {
	b := []byte{byte(o.Kind)}
	if o.Kind == 2 || o.Kind == 3 {
		b = append(b, byte(o.Validator))
	}
	if o.Kind == 1 {
		b = binary.BigEndian.AppendUint64(append(b, o.Key[:]...), o.Stake)
	}
	if o.Kind == 3 {
		for _, v := range o.Evidence {
			b = append(b, textVote(v)...)
		}
	}
	return b
}

func textHeader(h api.Header) []byte {
	b := append(binary.BigEndian.AppendUint64(bytes.Clone(h.Parent[:]), h.Epoch), byte(len(h.Ops)))
	for _, o := range h.Ops {
		b = append(b, textOp(o)...)
	}
	return b
}

func textAnchor(a api.Anchor) []byte {
	b := append(textPoint(a.Point), byte(len(a.Validators)))
	for _, v := range a.Validators {
		b = binary.BigEndian.AppendUint64(append(b, v.Key[:]...), v.Stake)
	}
	return binary.BigEndian.AppendUint64(binary.BigEndian.AppendUint64(b, a.Churn), a.Decay)
}

// taken is bytes that are taken off the front, and whether all was right so far.
type taken struct {
	b  []byte
	ok bool
}

func (t *taken) bytes(n int) []byte {
	if n > len(t.b) {
		t.ok, t.b = false, nil
		return make([]byte, n)
	}
	piece := t.b[:n]
	t.b = t.b[n:]
	return bytes.Clone(piece)
}

// number is a number that has to be from one to another.
func (t *taken) number(size int, from, to uint64) uint64 {
	n := binary.BigEndian.Uint64(append(make([]byte, 8-size), t.bytes(size)...))
	t.ok = t.ok && from <= n && n <= to
	return n
}

func (t *taken) hash() api.Hash { return api.Hash(t.bytes(32)) }

func (t *taken) point() api.Point {
	return api.Point{Epoch: t.number(8, 0, 1<<62), Name: t.hash()}
}

func (t *taken) vote() api.Vote {
	v := api.Vote{Validator: int(t.number(1, 1, 64)), Source: t.point(), Target: t.point()}
	v.Sig = t.bytes(int(t.number(2, 0, 4096)))
	return v
}

func (t *taken) op() api.HeaderOp {
	switch k := t.number(1, 1, 3); k {
	case 1:
		return api.HeaderOp{Kind: 1, Key: t.hash(), Stake: t.number(8, 1, 1<<32)}
	case 2:
		return api.HeaderOp{Kind: 2, Validator: int(t.number(1, 1, 64))}
	case 3:
		return api.HeaderOp{Kind: 3, Validator: int(t.number(1, 1, 64)), Evidence: []api.Vote{t.vote(), t.vote()}}
	}
	return api.HeaderOp{}
}

func (t *taken) header() api.Header {
	h := api.Header{Parent: t.hash(), Epoch: t.number(8, 1, 1<<62)}
	for range t.number(1, 0, 16) {
		h.Ops = append(h.Ops, t.op())
	}
	return h
}

func (t *taken) anchor() api.Anchor {
	a := api.Anchor{Point: t.point()}
	seen := map[api.Hash]bool{}
	for range t.number(1, 1, 64) {
		v := api.Validator{Key: t.hash(), Stake: t.number(8, 1, 1<<32)}
		t.ok = t.ok && !seen[v.Key]
		seen[v.Key] = true
		a.Validators = append(a.Validators, v)
	}
	a.Churn, a.Decay = t.number(8, 1, 1<<62), t.number(8, 0, 1<<62)
	return a
}

func someBytes(source *rand.Rand, n int) []byte {
	b := make([]byte, n)
	for i := range b {
		b[i] = byte(source.Uint32())
	}
	return b
}

func someHash(source *rand.Rand) api.Hash { return api.Hash(someBytes(source, 32)) }

func somePoint(source *rand.Rand) api.Point {
	return api.Point{Epoch: source.Uint64N(1<<62 + 1), Name: someHash(source)}
}

func someVote(source *rand.Rand) api.Vote {
	return api.Vote{Validator: 1 + source.IntN(64), Source: somePoint(source), Target: somePoint(source), Sig: someBytes(source, source.IntN(9))}
}

func someOp(source *rand.Rand) api.HeaderOp {
	switch source.IntN(3) {
	case 0:
		return api.HeaderOp{Kind: api.OpDeposit, Key: someHash(source), Stake: 1 + source.Uint64N(1<<32)}
	case 1:
		return api.HeaderOp{Kind: api.OpExit, Validator: 1 + source.IntN(64)}
	}
	return api.HeaderOp{Kind: api.OpSlash, Validator: 1 + source.IntN(64), Evidence: []api.Vote{someVote(source), someVote(source)}}
}

func someHeader(source *rand.Rand) api.Header {
	h := api.Header{Parent: someHash(source), Epoch: 1 + source.Uint64N(1<<62)}
	for range source.IntN(17) {
		h.Ops = append(h.Ops, someOp(source))
	}
	return h
}

func someAnchor(source *rand.Rand) api.Anchor {
	a := api.Anchor{Point: somePoint(source), Churn: 1 + source.Uint64N(1<<62), Decay: source.Uint64N(1<<62 + 1)}
	for range 1 + source.IntN(64) {
		a.Validators = append(a.Validators, api.Validator{Key: someHash(source), Stake: 1 + source.Uint64N(1<<32)})
	}
	return a
}

// allOf is a hash of one byte.
func allOf(x byte) api.Hash { return api.Hash(bytes.Repeat([]byte{x}, 32)) }

// The numbers at the edges of what may be, and those beyond them. Those of validators are great enough to go round in a byte, too.
var (
	rightNumbers = []int{1, 2, 63, 64}
	wrongNumbers = []int{0, 65, 66, 127, 128, 255, 256, 257, 320, 1 << 16, 1<<16 + 1, 1<<32 + 1, -1, -64, -192, -255, math.MinInt, math.MinInt + 1, math.MaxInt}
	rightEpochs  = []uint64{0, 1, 255, 256, 1<<32 + 1, 1<<62 - 1, 1 << 62}
	wrongEpochs  = []uint64{1<<62 + 1, 1<<63 - 1, 1 << 63, 1<<63 + 1, math.MaxUint64}
	rightStakes  = []uint64{1, 2, 256, 1<<31 + 1, 1<<32 - 1, 1 << 32}
	wrongStakes  = []uint64{0, 1<<32 + 1, 1<<33 + 1, 1 << 62, 1 << 63, 1<<63 + 1, math.MaxUint64}
	wrongKinds   = []api.OpKind{0, 4, 5, 127, 128, 255, 256, 257, 258, 259, 1<<32 + 1, 1<<32 + 2, 1<<32 + 3, -1, -2, -3, -253, -254, -255, math.MinInt, math.MaxInt}
)

// vote is an ordinary one.
func vote() api.Vote {
	return api.Vote{Validator: 3, Source: api.Point{Epoch: 5, Name: allOf(7)}, Target: api.Point{Epoch: 6, Name: allOf(8)}, Sig: []byte("sig")}
}

// changed is x with a change; the change is a copy's, not x's own list's.
func changed[T any](x T, change func(*T)) T {
	change(&x)
	return x
}

// deposit, exit and slash are ordinary ones.
func deposit() api.HeaderOp { return api.HeaderOp{Kind: api.OpDeposit, Key: allOf(9), Stake: 258} }

func exit() api.HeaderOp { return api.HeaderOp{Kind: api.OpExit, Validator: 4} }

func slash() api.HeaderOp {
	other := vote()
	other.Target.Name, other.Sig = allOf(10), []byte("other")
	return api.HeaderOp{Kind: api.OpSlash, Validator: 3, Evidence: []api.Vote{vote(), other}}
}

func ops() []api.HeaderOp { return []api.HeaderOp{deposit(), exit(), slash()} }

func header() api.Header { return api.Header{Parent: allOf(1), Epoch: 6, Ops: ops()} }

// members are so many, of unlike keys.
func members(n int) []api.Validator {
	var l []api.Validator
	for i := range n {
		l = append(l, api.Validator{Key: api.Hash{3: byte(i >> 8), 30: byte(i)}, Stake: uint64(1 + i)})
	}
	return l
}

func anchor() api.Anchor {
	return api.Anchor{Point: api.Point{Epoch: 5, Name: allOf(2)}, Validators: members(4), Churn: 10, Decay: 3}
}

// repeated is a list of one thing.
func repeated[T any](x T, n int) []T { return slices.Repeat([]T{x}, n) }

// kind is what the tests ask of points, votes, headers and anchors alike. Right ones are unlike each other.
type kind[T any] struct {
	right, wrong func() []T
	some         func(*rand.Rand) T
	may          func(T) bool
	write        func(T) ([]byte, api.Errno)
	read         func([]byte) (T, api.Errno)
	same         func(a, b T) bool
	text         func(T) []byte
	take         func(*taken) T
}

// textOf is what bytes are by the chapter's words, and whether they are something.
func (k kind[T]) textOf(b []byte) (T, bool) {
	t := &taken{bytes.Clone(b), true}
	x := k.take(t)
	return x, t.ok && len(t.b) == 0
}

// expectRead wants what is read of bytes to be what the chapter's words say.
func (k kind[T]) expectRead(t *testing.T, b []byte, why string) {
	t.Helper()
	keep := bytes.Clone(b)
	x, e := k.read(b)
	want, ok := k.textOf(b)
	var none T
	switch {
	case !bytes.Equal(b, keep):
		t.Fatalf("%s: what was handed in was changed", why)
	case ok && (e != api.OK || !k.same(x, want) || !bytes.Equal(k.text(x), b)):
		t.Fatalf("%s: of %x: %v, %v", why, b, x, e)
	case !ok && (e != api.ErrBytes || !reflect.DeepEqual(x, none)):
		t.Fatalf("%s: of %x: %v, %v; want none, ErrBytes", why, b, x, e)
	}
}

// expectNone wants bytes to be none's.
func (k kind[T]) expectNone(t *testing.T, b []byte, why string) {
	t.Helper()
	if _, ok := k.textOf(b); ok {
		t.Fatalf("%s: the test's own words take %x", why, b)
	}
	k.expectRead(t, b, why)
}

func points() kind[api.Point] {
	return kind[api.Point]{
		rightPoints, wrongPoints, somePoint, MayPoint, PointBytes, PointOf,
		func(a, b api.Point) bool { return a == b }, textPoint, (*taken).point,
	}
}

func votes() kind[api.Vote] {
	return kind[api.Vote]{rightVotes, wrongVotes, someVote, MayVote, VoteBytes, VoteOf, SameVote, textVote, (*taken).vote}
}

func headers() kind[api.Header] {
	return kind[api.Header]{rightHeaders, wrongHeaders, someHeader, MayHeader, HeaderBytes, HeaderOf, SameHeader, textHeader, (*taken).header}
}

func anchors() kind[api.Anchor] {
	return kind[api.Anchor]{rightAnchors, wrongAnchors, someAnchor, MayAnchor, AnchorBytes, AnchorOf, SameAnchor, textAnchor, (*taken).anchor}
}
