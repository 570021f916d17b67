package codec

import (
	"bytes"
	"math"
	"math/rand/v2"
	"reflect"
	"slices"
	"testing"

	"landmark/api"
)

func testThereAndBack[T any](t *testing.T, k kind[T]) {
	source := rand.New(rand.NewPCG(9, 5))
	l := k.right()
	for range 300 {
		l = append(l, k.some(source))
	}
	for i, x := range l {
		b, e := k.write(x)
		if e != api.OK {
			t.Fatal(i, e)
		}
		y, e := k.read(b)
		if e != api.OK || !k.same(x, y) {
			t.Errorf("%d: %v, %v; want %v", i, y, e, x)
		}
		if c, e := k.write(y); e != api.OK || !bytes.Equal(b, c) {
			t.Errorf("%d: other bytes on the way back", i)
		}
	}
}

// P9.5: ..Of of ..Bytes is it.
func TestThereAndBack(t *testing.T) {
	ofEach(t, testThereAndBack[api.Point], testThereAndBack[api.Vote], testThereAndBack[api.Header], testThereAndBack[api.Anchor])
}

func testUnlike[T any](t *testing.T, k kind[T]) {
	source := rand.New(rand.NewPCG(9, 6))
	l := k.right()
	for range 100 {
		l = append(l, k.some(source))
	}
	var rows [][]byte
	for i, x := range l {
		b, e := k.write(x)
		if e != api.OK {
			t.Fatal(i, e)
		}
		rows = append(rows, b)
	}
	for i, a := range rows {
		for j, b := range rows {
			// Like bytes are each other's beginning, too.
			if i != j && bytes.HasPrefix(b, a) {
				t.Errorf("the bytes of %d are the beginning of those of %d", i, j)
			}
		}
	}
}

// P9.5: unlike ones have unlike bytes, and none's are the beginning of another one's.
func TestUnlike(t *testing.T) {
	ofEach(t, testUnlike[api.Point], testUnlike[api.Vote], testUnlike[api.Header], testUnlike[api.Anchor])
}

func testSharesNothing[T any](t *testing.T, k kind[T]) {
	for i, x := range k.right() {
		b, _ := k.write(x)
		twin, _ := k.write(x)
		want := bytes.Clone(b)
		for j := range b {
			b[j] ^= 255
		}
		_ = append(b, 1)
		if again, _ := k.write(x); !bytes.Equal(twin, want) || !bytes.Equal(again, want) || !k.same(x, k.right()[i]) {
			t.Fatalf("right %d: its bytes are kept, or its own", i)
		}
		handed := slices.Concat(want, []byte{1, 2, 3})[:len(want)]
		y, _ := k.read(handed)
		z, _ := k.read(handed)
		if !bytes.Equal(handed, want) || !bytes.Equal(handed[:len(want)+3][len(want):], []byte{1, 2, 3}) {
			t.Fatalf("right %d: the bytes that were handed in were changed", i)
		}
		clear(handed)
		if !k.same(y, x) || !k.same(z, x) {
			t.Fatalf("right %d: what was read hangs on the bytes that were handed in", i)
		}
		spoil(reflect.ValueOf(&y).Elem())
		if !k.same(z, x) {
			t.Fatalf("right %d: two answers share their memory", i)
		}
	}
}

// spoil changes all bytes that hang on something, also those for which its lists have room.
func spoil(v reflect.Value) {
	switch v.Kind() {
	case reflect.Struct:
		for i := range v.NumField() {
			spoil(v.Field(i))
		}
	case reflect.Slice:
		full := v.Slice(0, v.Cap())
		for i := range full.Len() {
			spoil(full.Index(i))
		}
	case reflect.Array:
		for i := range v.Len() {
			spoil(v.Index(i))
		}
	case reflect.Uint8, reflect.Uint64:
		v.SetUint(v.Uint() ^ 255)
	case reflect.Int:
		v.SetInt(v.Int() + 1)
	}
}

// P9.2: what is answered is the caller's alone; what is handed in is not changed, and not kept.
func TestSharesNothing(t *testing.T) {
	ofEach(t, testSharesNothing[api.Point], testSharesNothing[api.Vote], testSharesNothing[api.Header], testSharesNothing[api.Anchor])
}

// P9.2: no two lists of one answer share their memory.
func TestListsShareNothing(t *testing.T) {
	b := textHeader(api.Header{Epoch: 1, Ops: []api.HeaderOp{slash(), slash()}})
	h, _ := HeaderOf(b)
	if len(h.Ops) != 2 {
		t.Fatal(h)
	}
	spoil(reflect.ValueOf(&h.Ops[0]).Elem())
	if !SameHeader(api.Header{Ops: h.Ops[1:]}, api.Header{Ops: []api.HeaderOp{slash()}}) {
		t.Error("two operations share their memory")
	}
	h, _ = HeaderOf(b)
	spoil(reflect.ValueOf(&h.Ops[0].Evidence[0]).Elem())
	if !SameVote(h.Ops[0].Evidence[1], slash().Evidence[1]) {
		t.Error("two votes share their memory")
	}
}

// P9.3: a text is the caller's alone, and a vote that was asked for it stays as it is; so do headers that are asked for their name, and lists that are held against each other.
func TestLooksChangeNothing(t *testing.T) {
	v := vote()
	b, _ := Text(v)
	want := bytes.Clone(b)
	clear(b)
	_ = append(b, 1)
	if again, _ := Text(v); !bytes.Equal(again, want) || !SameVote(v, vote()) {
		t.Error("Text")
	}
	h, a := header(), anchor()
	Name(h)
	MayHeader(h)
	MayAnchor(a)
	SameHeader(h, header())
	SameAnchor(a, anchor())
	if !reflect.DeepEqual(h, header()) || !reflect.DeepEqual(a, anchor()) || !reflect.DeepEqual(v, vote()) {
		t.Error("a look changed what was handed in")
	}
}

// P0.6: whatever a header, a vote and an anchor are made of, no call panics, and all agree on whether it may be.
func TestAnything(t *testing.T) {
	source := rand.New(rand.NewPCG(9, 7))
	for range 5000 {
		v, h, a := anyVote(source), anyHeader(source), anyAnchor(source)
		_, e := VoteBytes(v)
		if _, f := Text(v); (e == api.OK) != MayVote(v) || e != f || !SameVote(v, v) {
			t.Error(v)
		}
		_, e = HeaderBytes(h)
		if _, f := Name(h); (e == api.OK) != MayHeader(h) || e != f || !SameHeader(h, h) {
			t.Error(h)
		}
		if _, e := AnchorBytes(a); (e == api.OK) != MayAnchor(a) || !SameAnchor(a, a) {
			t.Error(a)
		}
	}
}

func anyEpoch(source *rand.Rand) uint64 {
	l := []uint64{0, 1, 5, 1 << 32, 1 << 62, 1<<62 + 1, math.MaxUint64}
	return l[source.IntN(len(l))]
}

func anyNumber(source *rand.Rand) int {
	l := []int{0, 1, 64, 65, 257, -1, math.MinInt, math.MaxInt}
	return l[source.IntN(len(l))]
}

func anyVote(source *rand.Rand) api.Vote {
	return api.Vote{Validator: anyNumber(source), Source: api.Point{Epoch: anyEpoch(source)}, Target: api.Point{Epoch: anyEpoch(source)}, Sig: make([]byte, source.IntN(3)*2049)}
}

func anyHeader(source *rand.Rand) api.Header {
	h := api.Header{Epoch: anyEpoch(source)}
	for range source.IntN(4) {
		o := api.HeaderOp{Kind: api.OpKind(source.IntN(6) - 1), Validator: anyNumber(source), Stake: anyEpoch(source)}
		for range source.IntN(4) {
			o.Evidence = append(o.Evidence, anyVote(source))
		}
		h.Ops = append(h.Ops, o)
	}
	return h
}

func anyAnchor(source *rand.Rand) api.Anchor {
	a := api.Anchor{Point: api.Point{Epoch: anyEpoch(source)}, Churn: anyEpoch(source), Decay: anyEpoch(source)}
	for range source.IntN(4) {
		a.Validators = append(a.Validators, api.Validator{Key: api.Hash{byte(source.IntN(9))}, Stake: anyEpoch(source)})
	}
	return a
}
