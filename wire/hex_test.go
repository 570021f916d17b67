package wire

import (
	"bytes"
	"encoding/hex"
	"strings"
	"testing"

	"landmark/api"
)

// P1.2: two signs for each byte, its sixteens first.
func TestHex(t *testing.T) {
	for _, c := range []struct {
		b    []byte
		want string
	}{
		{nil, ""},
		{[]byte{}, ""},
		{[]byte{0}, "00"},
		{[]byte{9, 10, 15, 16}, "090a0f10"},
		{[]byte{0, 171, 255}, "00abff"},
		{[]byte{0x01, 0x23, 0x45, 0x67, 0x89, 0xab, 0xcd, 0xef}, "0123456789abcdef"},
	} {
		if s := Hex(c.b); s != c.want {
			t.Errorf("Hex(%v) = %q; want %q", c.b, s, c.want)
		}
	}
}

// P1.2: each byte has its text, and comes back of it.
func TestHexAllBytes(t *testing.T) {
	all := make([]byte, 256)
	for i := range all {
		all[i] = byte(i)
	}
	s := Hex(all)
	if s != hex.EncodeToString(all) {
		t.Error(s)
	}
	if b, e := Unhex(s); e != api.OK || !bytes.Equal(b, all) {
		t.Error(b, e)
	}
}

// P1.2: of all texts of two signs just those are a byte's that Hex tells.
func TestUnhexAllPairs(t *testing.T) {
	texts := map[string]byte{}
	for i := range 256 {
		texts[Hex([]byte{byte(i)})] = byte(i)
	}
	if len(texts) != 256 {
		t.Fatal("two bytes of one text")
	}
	for i := range 1 << 16 {
		s := string([]byte{byte(i >> 8), byte(i)})
		b, e := Unhex(s)
		if x, ok := texts[s]; ok {
			if e != api.OK || !bytes.Equal(b, []byte{x}) {
				t.Errorf("Unhex(%q) = %v, %v", s, b, e)
			}
		} else if e != api.ErrBytes || len(b) != 0 {
			t.Errorf("Unhex(%q) = %v, %v", s, b, e)
		}
	}
}

// P1.2: texts that are none's: odd, with a capital letter, with another sign, at each place.
func TestUnhexWrong(t *testing.T) {
	for _, s := range []string{
		"0", "a", "g", "012", "abcde", "0g", "g0", "AB", "aB", "Ab", "0x12", "00 11", " 00", "00 ", "00\n", "-1", "+1",
		"/0", ":0", "`0", "\x00\x00", "0\xff", "é", "００", "00ab0", "00abG0", strings.Repeat("00", 100) + "0",
	} {
		if b, e := Unhex(s); e != api.ErrBytes || len(b) != 0 {
			t.Errorf("Unhex(%q) = %v, %v", s, b, e)
		}
	}
	good := "0123456789abcdef"
	for i := range len(good) {
		for _, wrong := range []string{"A", "F", "g", "/", ":", " ", "\x80"} {
			s := good[:i] + wrong + good[i+1:]
			if b, e := Unhex(s); e != api.ErrBytes || len(b) != 0 {
				t.Errorf("Unhex(%q) = %v, %v", s, b, e)
			}
		}
		if b, e := Unhex(good[:i]); (e == api.OK) != (i%2 == 0) || e == api.OK && len(b) != i/2 {
			t.Errorf("Unhex(%q) = %v, %v", good[:i], b, e)
		}
	}
}

// P1.2: the text without signs is that of no bytes.
func TestUnhexEmpty(t *testing.T) {
	if b, e := Unhex(""); e != api.OK || len(b) != 0 {
		t.Error(b, e)
	}
}

// What is answered is in new memory.
func TestHexSharesNothing(t *testing.T) {
	b := []byte{1, 2}
	s := Hex(b)
	b[0] = 9
	if s != "0102" {
		t.Error(s)
	}
	x, _ := Unhex(s)
	x[0] = 9
	if y, _ := Unhex(s); y[0] != 1 || s != "0102" {
		t.Error(y, s)
	}
}
