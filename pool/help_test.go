package pool

import (
	"bytes"
	"math"
	"math/rand/v2"
	"reflect"
	"slices"
	"testing"

	"landmark/api"
)

// The model: the chapter's words written anew over a plain list that is gone over one by one.

// entry is a vote of a model. Its signature is a text, which nobody changes.
type entry struct {
	validator int
	link      api.Link
	sig       string
	key       api.Hash
	stake     uint64
}

func entryOf(v api.Vote, key api.Hash, stake uint64) entry {
	return entry{v.Validator, api.Link{Source: v.Source, Target: v.Target}, string(v.Sig), key, stake}
}

// may is whether such a vote may be, and its stake.
func (e entry) may() bool {
	const mostEpoch = 4611686018427387904
	return 1 <= e.validator && e.validator <= 64 && e.link.Source.Epoch <= mostEpoch && e.link.Target.Epoch <= mostEpoch && len(e.sig) <= 4096 &&
		1 <= e.stake && e.stake <= 4294967296
}

type model []entry

// of are those whose key it is, by places.
func (m model) of(key api.Hash) model {
	return m.only(func(e entry) bool { return e.key == key })
}

// link are those of a link, by places.
func (m model) link(l api.Link) model {
	return m.only(func(e entry) bool { return e.link == l })
}

func (m model) only(is func(entry) bool) model {
	var l model
	for _, e := range m {
		if is(e) {
			l = append(l, e)
		}
	}
	return l
}

func (m model) weight() uint64 {
	var sum uint64
	for _, e := range m {
		sum += e.stake
	}
	return sum
}

// judge is the error of an Add, by the chapter's order.
func (m model) judge(e entry) api.Errno {
	switch {
	case !e.may():
		return api.ErrArg
	case len(m.of(e.key).link(e.link)) > 0:
		return api.ErrExists
	case len(m) >= 65536:
		return api.ErrFull
	}
	return api.OK
}

// each is some thing of each vote, in order.
func each[T comparable](m model, thing func(entry) T) []T {
	var l []T
	for _, e := range m {
		l = append(l, thing(e))
	}
	return l
}

// once is each of a list by its first place alone.
func once[T comparable](l []T) []T {
	var first []T
	for _, x := range l {
		if !slices.Contains(first, x) {
			first = append(first, x)
		}
	}
	return first
}

func (m model) links() []api.Link {
	return once(each(m, func(e entry) api.Link { return e.link }))
}

func (m model) keys() []api.Hash {
	return once(each(m, func(e entry) api.Hash { return e.key }))
}

// isSigned is whether what was told are these votes, whole.
func (m model) isSigned(l []api.Signed) bool {
	return slices.EqualFunc(l, m, func(one api.Signed, e entry) bool { return entryOf(one.Vote, one.Key, one.Stake) == e })
}

// isVotes is that of votes without what they weigh.
func (m model) isVotes(l []api.Vote) bool {
	return slices.EqualFunc(l, m, func(v api.Vote, e entry) bool { return entryOf(v, e.key, e.stake) == e })
}

// pair is a pool, and the model that it is held against.
type pair struct {
	t *testing.T
	p *Pool
	m model
}

func newPair(t *testing.T) *pair {
	t.Helper()
	p := New()
	if p == nil || p.Len() != 0 {
		t.Fatal("New: no pool without votes")
	}
	return &pair{t, p, nil}
}

// give checks and then adds a vote to both, and wants both to tell the same of it.
func (o *pair) give(v api.Vote, key api.Hash, stake uint64) api.Errno {
	o.t.Helper()
	one := entryOf(v, key, stake)
	code, l := o.m.judge(one), one.link
	for range 2 {
		if e := o.p.Check(v, key, stake); e != code {
			o.t.Fatalf("Check of %v: %v; want %v", one, e, code)
		}
	}
	before := o.m.link(l)
	if o.p.Len() != len(o.m) || o.p.Weight(l) != before.weight() || o.p.Voters(l) != len(before) || len(o.p.Of(key)) != len(o.m.of(key)) {
		o.t.Fatal("Check has changed something")
	}
	var want uint64
	if code == api.OK {
		o.m = append(o.m, one)
		want = before.weight() + stake
	}
	if weight, e := o.p.Add(v, key, stake); weight != want || e != code {
		o.t.Fatalf("Add of %v: %d, %v; want %d, %v", one, weight, e, want, code)
	}
	if entryOf(v, key, stake) != one {
		o.t.Fatal("what was handed in was changed")
	}
	return code
}

// add gives a vote that is to be taken.
func (o *pair) add(v api.Vote, key api.Hash, stake uint64) {
	o.t.Helper()
	if e := o.give(v, key, stake); e != api.OK {
		o.t.Fatalf("%v of %x: %v", v, key, e)
	}
}

// refuse gives a vote that is to be refused, and wants nothing to have changed.
func (o *pair) refuse(v api.Vote, key api.Hash, stake uint64, want api.Errno) {
	o.t.Helper()
	if e := o.give(v, key, stake); e != want {
		o.t.Fatalf("%v of %x: %v; want %v", v, key, e, want)
	}
	o.hold()
}

// hold wants all looks to tell what the model tells: of all links and keys, and of such as are none's, though they have parts of those.
func (o *pair) hold() {
	o.t.Helper()
	o.holdWhole()
	for _, l := range append(o.m.links(), o.strangeLinks()...) {
		o.holdLink(l)
	}
	for _, key := range append(o.m.keys(), o.strangeKeys()...) {
		o.holdKey(key)
	}
}

// holdWhole holds what is asked of the pool as a whole.
func (o *pair) holdWhole() {
	o.t.Helper()
	if o.p.Len() != len(o.m) {
		o.t.Fatalf("Len: %d; want %d", o.p.Len(), len(o.m))
	}
	if links := o.p.Links(); !slices.Equal(links, o.m.links()) {
		o.t.Fatalf("Links: %v; want %v", links, o.m.links())
	}
	if l := gathered(o.t, o.p); !o.m.isSigned(l) {
		o.t.Fatalf("All: %v; want %v", l, o.m)
	}
}

func (o *pair) holdLink(l api.Link) {
	o.t.Helper()
	want := o.m.link(l)
	if weight := o.p.Weight(l); weight != want.weight() {
		o.t.Fatalf("Weight of %v: %d; want %d", l, weight, want.weight())
	}
	if voters := o.p.Voters(l); voters != len(want) {
		o.t.Fatalf("Voters of %v: %d; want %d", l, voters, len(want))
	}
	if votes := o.p.For(l); !want.isSigned(votes) {
		o.t.Fatalf("For %v: %v; want %v", l, votes, want)
	}
}

func (o *pair) holdKey(key api.Hash) {
	o.t.Helper()
	if votes := o.p.Of(key); !o.m.of(key).isVotes(votes) {
		o.t.Fatalf("Of %x: %v; want %v", key, votes, o.m.of(key))
	}
}

// strangeLinks are links that have parts of those that are there: ends changed about, of others, or changed in one thing. Some of them may be there.
func (o *pair) strangeLinks() []api.Link {
	l := []api.Link{{}, {Source: pointOf(1)}, {Target: pointOf(1)}}
	known := o.m.links()
	for i, link := range known {
		next := known[(i+1)%len(known)]
		l = append(l, turned(link), api.Link{Source: link.Source, Target: next.Target}, api.Link{Source: link.Source, Target: link.Source}, api.Link{Source: link.Target, Target: link.Target})
		for _, change := range pointChanges {
			l = append(l, changed(link, func(l *api.Link) { change(&l.Source) }), changed(link, func(l *api.Link) { change(&l.Target) }))
		}
	}
	return l
}

// strangeKeys are keys that are near those that are there, and names of checkpoints. Some of them may be there.
func (o *pair) strangeKeys() []api.Hash {
	l := []api.Hash{{}, {1}, {31: 1}, allOf(255)}
	for _, key := range o.m.keys() {
		for _, i := range []int{0, 15, 31} {
			l = append(l, changed(key, func(key *api.Hash) { key[i] ^= 1 }))
		}
	}
	for _, link := range o.m.links() {
		l = append(l, link.Source.Name, link.Target.Name)
	}
	return l
}

// pointChanges each change one thing of a checkpoint.
var pointChanges = []func(*api.Point){
	func(p *api.Point) { p.Epoch++ },
	func(p *api.Point) { p.Epoch-- },
	func(p *api.Point) { p.Epoch ^= 1 << 61 },
	func(p *api.Point) { p.Name[0] ^= 1 },
	func(p *api.Point) { p.Name[15] ^= 128 },
	func(p *api.Point) { p.Name[31] ^= 1 },
}

// changed is x with a change; the change is a copy's.
func changed[T any](x T, change func(*T)) T {
	change(&x)
	return x
}

// turned is a link with its two ends the other way round.
func turned(l api.Link) api.Link { return api.Link{Source: l.Target, Target: l.Source} }

// gathered is what All hands out, from first to last.
func gathered(t *testing.T, p *Pool) []api.Signed {
	t.Helper()
	var l []api.Signed
	for i, one := range p.All() {
		if i != len(l) {
			t.Fatalf("All: the number %d at place %d", i, len(l))
		}
		l = append(l, one)
	}
	return l
}

func allOf(x byte) api.Hash { return api.Hash(bytes.Repeat([]byte{x}, 32)) }

// keyOf is a number's key.
func keyOf(n int) api.Hash { return api.Hash{0: 7, 29: byte(n >> 16), 30: byte(n >> 8), 31: byte(n)} }

// pointOf is a number's checkpoint; those of two numbers are unlike in both things.
func pointOf(n int) api.Point {
	return api.Point{Epoch: uint64(n), Name: api.Hash{0: byte(n), 1: byte(n >> 8), 2: byte(n >> 16), 31: 9}}
}

// linkOf is from one number's checkpoint to another one's.
func linkOf(source, target int) api.Link {
	return api.Link{Source: pointOf(source), Target: pointOf(target)}
}

// voteFor is an ordinary vote of a link.
func voteFor(n int, l api.Link) api.Vote {
	return api.Vote{Validator: n, Source: l.Source, Target: l.Target, Sig: []byte("some sig of " + string(rune('a'+n)))}
}

// voteOf is an ordinary vote from one number's checkpoint to another one's.
func voteOf(n, source, target int) api.Vote { return voteFor(n, linkOf(source, target)) }

// wrongVotes each are an ordinary vote, of 5 to 6, with one thing that may not be.
func wrongVotes() []api.Vote {
	var l []api.Vote
	wrong := func(change func(*api.Vote)) { l = append(l, changed(voteOf(3, 5, 6), change)) }
	for _, n := range []int{0, -1, -63, 65, 66, 128, 255, 256, 257, 1<<32 + 1, math.MinInt, math.MaxInt} {
		wrong(func(v *api.Vote) { v.Validator = n })
	}
	for _, epoch := range []uint64{api.MaxEpoch + 1, 1<<63 - 1, 1 << 63, math.MaxUint64} {
		wrong(func(v *api.Vote) { v.Source.Epoch = epoch })
		wrong(func(v *api.Vote) { v.Target.Epoch = epoch })
	}
	for _, size := range []int{4097, 65535, 65536, 1 << 20} {
		wrong(func(v *api.Vote) { v.Sig = make([]byte, size) })
	}
	return l
}

var (
	rightStakes = []uint64{1, 2, 255, 256, 1<<31 + 1, api.MaxStake - 1, api.MaxStake}
	wrongStakes = []uint64{0, api.MaxStake + 1, 1<<33 + 1, 1 << 62, 1 << 63, math.MaxUint64 - 1, math.MaxUint64}
)

// some gives a vote by chance, of few keys and links, so that many are there already; some may not be.
func (o *pair) some(source *rand.Rand) api.Errno {
	o.t.Helper()
	v := voteOf(1+source.IntN(4), source.IntN(4), source.IntN(4))
	if source.IntN(6) == 0 {
		v.Source.Name, v.Target.Name = allOf(1), allOf(1)
	}
	stake := 1 + source.Uint64N(20)
	switch source.IntN(20) {
	case 0:
		l := wrongVotes()
		v = l[source.IntN(len(l))]
	case 1:
		stake = wrongStakes[source.IntN(len(wrongStakes))]
	case 2:
		stake = api.MaxStake
	case 3:
		v.Sig = nil
	}
	return o.give(v, keyOf(source.IntN(5)), stake)
}

// spoilSigned changes all that votes have, and writes behind them where there is room.
func spoilSigned(l []api.Signed) {
	for i := range l {
		spoilSig(l[i].Vote.Sig)
	}
	l = l[:cap(l)]
	for i := range l {
		l[i] = api.Signed{Key: allOf(77), Stake: 77}
	}
}

func spoilVotes(l []api.Vote) {
	for i := range l {
		spoilSig(l[i].Sig)
	}
	l = l[:cap(l)]
	for i := range l {
		l[i] = api.Vote{Validator: 77}
	}
}

func spoilLinks(l []api.Link) {
	l = l[:cap(l)]
	for i := range l {
		l[i] = linkOf(77, 77)
	}
}

// spoilSig changes a signature, and what lies behind it where it has room.
func spoilSig(b []byte) {
	b = b[:cap(b)]
	for i := range b {
		b[i] ^= 255
	}
}

// isNothing is whether an answer is nothing.
func isNothing(x any) bool {
	v := reflect.ValueOf(x)
	return v.IsZero() || v.Kind() == reflect.Slice && v.Len() == 0
}
