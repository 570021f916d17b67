package sha

import "landmark/api"

const signs = "0123456789abcdef"

// textSize is how many signs a hash's text has.
const textSize = 64

// Text is the text of a hash.
func Text(h api.Hash) string {
	var text [textSize]byte
	for i, x := range h {
		text[2*i], text[2*i+1] = signs[x>>4], signs[x&15]
	}
	return string(text[:])
}

// Of is the hash that has a text.
func Of(s string) (api.Hash, api.Errno) {
	if len(s) != textSize {
		return api.Hash{}, api.ErrBytes
	}
	var h api.Hash
	known := 0
text:
	for known < textSize {
		var value byte
		switch sign := s[known]; {
		case '0' <= sign && sign <= '9':
			value = sign - '0'
		case 'a' <= sign && sign <= 'f':
			value = sign - 'a' + 10
		default:
			break text
		}
		h[known/2] = h[known/2]<<4 | value
		known++
	}
	if known < textSize {
		return api.Hash{}, api.ErrBytes
	}
	return h, api.OK
}
