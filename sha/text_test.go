package sha

import (
	"bytes"
	"encoding/hex"
	"math/rand/v2"
	"strings"
	"testing"

	"landmark/api"
)

// edgeHashes are those at the edges, and others.
func edgeHashes() []api.Hash {
	source := rand.New(rand.NewPCG(3, 10))
	l := []api.Hash{{}, api.Hash(bytes.Repeat([]byte{255}, 32)), Sum(), Sum([]byte("abc"))}
	for i := range 256 {
		var one api.Hash
		one[i%32] = byte(i)
		l = append(l, one, api.Hash(bytes.Repeat([]byte{byte(i)}, 32)))
	}
	for range 50 {
		l = append(l, someHash(source))
	}
	return l
}

func expectNone(t *testing.T, s string) {
	t.Helper()
	if h, e := Of(s); e != api.ErrBytes || h != (api.Hash{}) {
		t.Errorf("Of(%q) = %x, %v", s, h, e)
	}
}

// P3.2: 64 signs, two for each byte, its sixteens first.
func TestText(t *testing.T) {
	h := api.Hash{0: 0x01, 1: 0x23, 2: 0x45, 3: 0x67, 4: 0x89, 5: 0xab, 6: 0xcd, 7: 0xef, 31: 0xf0}
	if s := Text(h); s != "0123456789abcdef"+strings.Repeat("0", 46)+"f0" {
		t.Error(s)
	}
	if s := Text(api.Hash{}); s != strings.Repeat("0", 64) {
		t.Error(s)
	}
	for _, h := range edgeHashes() {
		if s := Text(h); s != hex.EncodeToString(h[:]) {
			t.Errorf("Text(%x) = %s", h, s)
		}
	}
}

// P3.2: of each text comes the hash that has it.
func TestOfText(t *testing.T) {
	for _, h := range edgeHashes() {
		if o, e := Of(Text(h)); e != api.OK || o != h {
			t.Errorf("Of(Text(%x)) = %x, %v", h, o, e)
		}
	}
	s := strings.Repeat("0123456789abcdef", 4)
	if h, e := Of(s); e != api.OK || h[0] != 0x01 || h[1] != 0x23 || h[31] != 0xef || Text(h) != s {
		t.Errorf("Of(%s) = %x, %v", s, h, e)
	}
}

// P3.2: texts that are too short or too long, by one sign, by a byte, by far.
func TestOfWrongLength(t *testing.T) {
	s := Text(Sum())
	for n := range 64 {
		expectNone(t, s[:n])
		expectNone(t, s[64-n:])
	}
	for _, more := range []string{"0", "00", " ", "\n", "\x00", s, strings.Repeat("0", 1000)} {
		expectNone(t, s+more)
		expectNone(t, more+s)
	}
}

// P3.2: each byte that is no sign, at each place; great letters are none.
func TestOfWrongSign(t *testing.T) {
	s := Text(Sum([]byte("abc")))
	for i := range s {
		for x := range 256 {
			if strings.IndexByte("0123456789abcdef", byte(x)) >= 0 {
				continue
			}
			expectNone(t, s[:i]+string([]byte{byte(x)})+s[i+1:])
		}
	}
	expectNone(t, strings.ToUpper(s))
	// Of 64 bytes, but of fewer signs; and of 64 signs, but of more bytes.
	expectNone(t, s[:62]+"é")
	expectNone(t, s[:63]+"é")
	expectNone(t, strings.Repeat("é", 32))
	expectNone(t, strings.Repeat("\xff", 64))
	expectNone(t, "0x"+s[:62])
	expectNone(t, "-"+s[1:])
}

// P3.2: a hash has one text: what is a text is what Text tells of its hash.
func TestOneText(t *testing.T) {
	source := rand.New(rand.NewPCG(3, 11))
	const near = "0123456789abcdefABCDEFg/:`@G "
	for range 20000 {
		b := []byte(Text(someHash(source)))
		for range source.IntN(3) {
			b[source.IntN(len(b))] = near[source.IntN(len(near))]
		}
		h, e := Of(string(b))
		if e == api.OK && Text(h) != string(b) || e != api.OK && (e != api.ErrBytes || h != api.Hash{}) {
			t.Errorf("Of(%s) = %x, %v", b, h, e)
		}
		if _, wrong := hex.DecodeString(string(b)); wrong == nil && strings.ToLower(string(b)) == string(b) && e != api.OK {
			t.Errorf("Of(%s) is refused: %v", b, e)
		}
	}
}

// P3.4: texts stand in the order of their hashes, and equal ones are those of equal hashes.
func TestOrderOfTexts(t *testing.T) {
	l := edgeHashes()
	for _, a := range l {
		for _, b := range l {
			if strings.Compare(Text(a), Text(b)) != bytes.Compare(a[:], b[:]) {
				t.Errorf("%x and %x stand in another order than their texts", a, b)
			}
			if (Text(a) == Text(b)) != Equal(a, b) {
				t.Errorf("%x and %x", a, b)
			}
		}
	}
}

// P3.4: also where two hashes differ by their last bit, or by one sign of digits and letters.
func TestOrderNearby(t *testing.T) {
	for i := range 32 {
		for x := range 255 {
			a, b := Sum([]byte{byte(i)}), Sum([]byte{byte(i)})
			a[i], b[i] = byte(x), byte(x+1)
			if Text(a) >= Text(b) {
				t.Errorf("byte %d: the text of %d is not ahead of that of %d", i, x, x+1)
			}
		}
	}
}
