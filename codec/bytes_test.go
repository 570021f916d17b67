package codec

import (
	"bytes"
	"math/rand/v2"
	"testing"

	"landmark/api"
)

// ofEach does a test for points, votes, headers and anchors.
func ofEach(t *testing.T, ofPoints func(*testing.T, kind[api.Point]), ofVotes func(*testing.T, kind[api.Vote]), ofHeaders func(*testing.T, kind[api.Header]), ofAnchors func(*testing.T, kind[api.Anchor])) {
	t.Run("points", func(t *testing.T) { ofPoints(t, points()) })
	t.Run("votes", func(t *testing.T) { ofVotes(t, votes()) })
	t.Run("headers", func(t *testing.T) { ofHeaders(t, headers()) })
	t.Run("anchors", func(t *testing.T) { ofAnchors(t, anchors()) })
}

// P9.2: the chapter's examples.
func TestBytesExample(t *testing.T) {
	b, e := PointBytes(api.Point{Epoch: 7})
	if want := append([]byte{7: 7}, make([]byte, 32)...); !bytes.Equal(b, want) || e != api.OK {
		t.Error(b, e)
	}
	b, e = HeaderBytes(api.Header{Epoch: 1})
	if want := append(append(make([]byte, 32), 0, 0, 0, 0, 0, 0, 0, 1), 0); !bytes.Equal(b, want) || e != api.OK {
		t.Error(b, e)
	}
	if v, e := VoteOf(nil); !SameVote(v, api.Vote{}) || e != api.ErrBytes {
		t.Error(v, e)
	}
}

// P9.2: bytes that are written out here, one by one.
func TestBytesByHand(t *testing.T) {
	noughts := func(n int) []byte { return make([]byte, n) }
	v := api.Vote{Validator: 64, Source: api.Point{Epoch: 258}, Target: api.Point{Epoch: 1 << 62, Name: api.Hash{5}}, Sig: []byte{10, 11}}
	voted := bytes.Join([][]byte{{64}, {0, 0, 0, 0, 0, 0, 1, 2}, noughts(32), {64, 0, 0, 0, 0, 0, 0, 0}, {5}, noughts(31), {0, 2}, {10, 11}}, nil)
	if b, e := VoteBytes(v); !bytes.Equal(b, voted) || e != api.OK {
		t.Error(b, e)
	}
	h := api.Header{Parent: api.Hash{31: 9}, Epoch: 3, Ops: []api.HeaderOp{
		{Kind: api.OpSlash, Validator: 2, Evidence: []api.Vote{v, {Validator: 1}}},
		{Kind: api.OpDeposit, Key: api.Hash{7}, Stake: 1 << 32},
		{Kind: api.OpExit, Validator: 63},
	}}
	headed := bytes.Join([][]byte{noughts(31), {9}, {0, 0, 0, 0, 0, 0, 0, 3}, {3}, {3, 2}, voted, {1}, noughts(82), {1, 7}, noughts(31), {0, 0, 0, 1, 0, 0, 0, 0}, {2, 63}}, nil)
	if b, e := HeaderBytes(h); !bytes.Equal(b, headed) || e != api.OK {
		t.Error(b, e)
	}
	a := api.Anchor{Point: api.Point{Epoch: 256, Name: api.Hash{6}}, Validators: []api.Validator{{Key: api.Hash{8}, Stake: 3}, {Stake: 1 << 32}}, Churn: 1 << 62, Decay: 513}
	anchored := bytes.Join([][]byte{
		{0, 0, 0, 0, 0, 0, 1, 0}, {6}, noughts(31), {2}, {8}, noughts(31), {0, 0, 0, 0, 0, 0, 0, 3}, noughts(32), {0, 0, 0, 1, 0, 0, 0, 0},
		{64, 0, 0, 0, 0, 0, 0, 0}, {0, 0, 0, 0, 0, 0, 2, 1},
	}, nil)
	if b, e := AnchorBytes(a); !bytes.Equal(b, anchored) || e != api.OK {
		t.Error(b, e)
	}
}

func testBytes[T any](t *testing.T, k kind[T]) {
	for i, x := range k.right() {
		if b, e := k.write(x); !bytes.Equal(b, k.text(x)) || e != api.OK {
			t.Errorf("right %d: %x, %v; want %x", i, b, e, k.text(x))
		}
	}
	for i, x := range k.wrong() {
		if b, e := k.write(x); b != nil || e != api.ErrArg {
			t.Errorf("wrong %d: %x, %v", i, b, e)
		}
	}
}

// P9.2: the bytes of each that may be are the chapter's; of each that may not be ErrArg, and no bytes.
func TestBytes(t *testing.T) {
	ofEach(t, testBytes[api.Point], testBytes[api.Vote], testBytes[api.Header], testBytes[api.Anchor])
}

func testOf[T any](t *testing.T, k kind[T]) {
	for i, x := range k.right() {
		if y, e := k.read(k.text(x)); !k.same(x, y) || e != api.OK {
			t.Errorf("right %d: %v, %v; want %v", i, y, e, x)
		}
	}
	k.expectNone(t, nil, "nil")
	k.expectNone(t, []byte{}, "empty")
	for n := range 200 {
		k.expectRead(t, make([]byte, n), "noughts")
		k.expectRead(t, bytes.Repeat([]byte{1}, n), "bytes 1")
		k.expectRead(t, bytes.Repeat([]byte{255}, n), "bytes 255")
	}
	k.expectNone(t, make([]byte, 1<<20), "many noughts")
	// What may not be has bytes, too, as far as its numbers go round; most of them are none's.
	for _, x := range k.wrong() {
		k.expectRead(t, k.text(x), "what may not be")
	}
}

// P9.2: of the bytes of each that may be, it; of no bytes, and of the bytes of what may not be, ErrBytes, and nothing.
func TestOf(t *testing.T) {
	ofEach(t, testOf[api.Point], testOf[api.Vote], testOf[api.Header], testOf[api.Anchor])
}

// cuts are places to cut at: all of short bytes, of long ones those at both ends, and some.
func cuts(n int) []int {
	var l []int
	for i := range n {
		if n < 600 || i < 150 || i > n-150 || i%97 == 0 {
			l = append(l, i)
		}
	}
	return l
}

func testCut[T any](t *testing.T, k kind[T]) {
	right := k.right()
	for i := 0; i < len(right); i += 1 + len(right)/60 {
		b := k.text(right[i])
		for _, n := range cuts(len(b)) {
			k.expectNone(t, b[:n:n], "cut")
			k.expectNone(t, b[:n], "cut, with more behind it in memory")
		}
		for x := range 256 {
			k.expectNone(t, append(bytes.Clone(b), byte(x)), "a byte more")
		}
		k.expectNone(t, b[1:], "without its first byte")
		k.expectNone(t, append([]byte{0}, b...), "a byte ahead")
		k.expectNone(t, append(bytes.Clone(b), b...), "twice")
	}
}

// P9.2: bytes that are cut at each place, and lengthened by each byte.
func TestOfCut(t *testing.T) {
	ofEach(t, testCut[api.Point], testCut[api.Vote], testCut[api.Header], testCut[api.Anchor])
}

func testTurned[T any](t *testing.T, k kind[T], some ...T) {
	for _, x := range some {
		b := k.text(x)
		for i, old := range b {
			for y := range 256 {
				b[i] = byte(y)
				k.expectRead(t, b, "a byte is another one")
			}
			b[i] = old
		}
	}
}

// P9.2: each byte is each other one: what is read is what the chapter's words say.
func TestOfTurned(t *testing.T) {
	small := changed(vote(), func(v *api.Vote) { v.Sig = nil })
	testTurned(t, points(), api.Point{}, api.Point{Epoch: 1 << 62, Name: allOf(255)})
	testTurned(t, votes(), small, vote(), api.Vote{Validator: 64, Source: api.Point{Epoch: 1 << 62}, Sig: make([]byte, 16)})
	testTurned(t, headers(), api.Header{Epoch: 1}, header(), api.Header{Epoch: 9, Ops: []api.HeaderOp{exit(), deposit(), exit()}})
	testTurned(t, headers(), api.Header{Epoch: 9, Ops: repeated(exit(), 16)})
	testTurned(t, anchors(), anchor(), api.Anchor{Validators: []api.Validator{{Stake: 1 << 32}, {Key: api.Hash{31: 1}, Stake: 1}}, Churn: 1 << 62, Decay: 1 << 62})
}

func testJumbled[T any](t *testing.T, k kind[T]) {
	source := rand.New(rand.NewPCG(9, 1))
	for range 3000 {
		b := k.text(k.some(source))
		for range 1 + source.IntN(3) {
			at := source.IntN(len(b))
			switch source.IntN(4) {
			case 0:
				b[at] = byte(source.Uint32())
			case 1:
				b[at] += byte(source.IntN(3)) - 1
			case 2:
				b = append(b[:at], b[min(len(b), at+1+source.IntN(90)):]...)
			case 3:
				b = append(b[:at:at], append(someBytes(source, 1+source.IntN(3)), b[at:]...)...)
			}
			if len(b) == 0 {
				break
			}
		}
		k.expectRead(t, b, "jumbled")
	}
}

// P9.2: bytes of any that may be, with bytes that are changed, left out and put in.
func TestOfJumbled(t *testing.T) {
	ofEach(t, testJumbled[api.Point], testJumbled[api.Vote], testJumbled[api.Header], testJumbled[api.Anchor])
}

// P9.2: counts that are greater and less than what stands there, and such as may not be although as many stand there.
func TestOfCounts(t *testing.T) {
	for there := range 20 {
		for count := range 256 {
			h := textHeader(api.Header{Epoch: 1, Ops: repeated(exit(), there)})
			h[40] = byte(count)
			if _, e := HeaderOf(h); (e == api.OK) != (there == count && count <= 16) || e != api.OK && e != api.ErrBytes {
				t.Errorf("a header of %d operations that says %d: %v", there, count, e)
			}
		}
	}
	for _, there := range []int{0, 1, 2, 63, 64, 65, 66, 128, 255} {
		for count := range 256 {
			a := textAnchor(api.Anchor{Validators: members(there), Churn: 1})
			a[40] = byte(count)
			if _, e := AnchorOf(a); (e == api.OK) != (there == count && 1 <= count && count <= 64) || e != api.OK && e != api.ErrBytes {
				t.Errorf("an anchor of %d validators that says %d: %v", there, count, e)
			}
		}
	}
}

// P9.2: a signature whose blob says more or less than there is, and one of 4097 bytes that is there.
func TestOfSig(t *testing.T) {
	for _, there := range []int{0, 1, 255, 256, 257, 4095, 4096, 4097, 8192, 65535} {
		for _, says := range []int{0, 1, there - 1, there, there + 1, 4096, 4097, 65535} {
			if says < 0 || says > 65535 {
				continue
			}
			b := textVote(changed(vote(), func(v *api.Vote) { v.Sig = make([]byte, there) }))
			b[81], b[82] = byte(says>>8), byte(says)
			v, e := VoteOf(b)
			if want := there == says && says <= 4096; (e == api.OK) != want || e != api.OK && (e != api.ErrBytes || v.Validator != 0) {
				t.Errorf("a Sig of %d bytes that says %d: %v", there, says, e)
			}
		}
	}
}

// P9.2: an operation's kinds that there are not, and what stands where another kind's would.
func TestOfKinds(t *testing.T) {
	for kind := range 256 {
		for _, o := range ops() {
			b := textHeader(api.Header{Epoch: 1, Ops: []api.HeaderOp{o}})
			b[41] = byte(kind)
			if _, e := HeaderOf(b); (e == api.OK) != (api.OpKind(kind) == o.Kind) || e != api.OK && e != api.ErrBytes {
				t.Errorf("of the kind %d the bytes of the kind %d: %v", kind, o.Kind, e)
			}
		}
		headers().expectRead(t, append(textHeader(api.Header{Epoch: 1})[:40:40], 1, byte(kind)), "a kind alone")
	}
}
