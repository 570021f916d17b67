package wire

import "landmark/api"

const signs = "0123456789abcdef"

// signValue is what a sign stands for, and whether it is one.
func signValue(sign byte) (byte, bool) {
	switch {
	case '0' <= sign && sign <= '9':
		return sign - '0', true
	case 'a' <= sign && sign <= 'f':
		return sign - 'a' + 10, true
	}
	return 0, false
}

// Hex is the text of bytes.
func Hex(b []byte) string {
	text := make([]byte, 0, 2*len(b))
	for _, x := range b {
		text = append(text, signs[x>>4], signs[x&15])
	}
	return string(text)
}

// Unhex is the bytes whose text it is.
func Unhex(s string) ([]byte, api.Errno) {
	b := make([]byte, 0, len(s)/2)
pairs:
	for i := 0; i+1 < len(s); i += 2 {
		var x byte
		for j := range 2 {
			v, ok := signValue(s[i+j])
			if !ok {
				break pairs
			}
			x = x<<4 | v
		}
		b = append(b, x)
	}
	// Signs that went into no byte: a wrong one, what stands behind it, or one without a partner.
	if 2*len(b) != len(s) {
		return nil, api.ErrBytes
	}
	return b, api.OK
}
