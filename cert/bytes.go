package cert

import (
	"bytes"
	"slices"

	"landmark/api"
	"landmark/codec"
)

// How many bytes stand for a checkpoint, for how many votes there are, and for how many bytes a vote has.
const (
	pointSize  = 8 + len(api.Hash{})
	countWidth = 1
	sizeWidth  = 2
)

// Bytes is a certificate's bytes.
func Bytes(c api.Cert) ([]byte, api.Errno) {
	if !May(c) {
		return nil, api.ErrArg
	}
	// What may be told is made of what may be, and each count has room.
	source, _ := codec.PointBytes(c.Link.Source)
	target, _ := codec.PointBytes(c.Link.Target)
	b := slices.Concat(source, target, []byte{byte(len(c.Votes))})
	for _, v := range c.Votes {
		one, _ := codec.VoteBytes(v)
		b = append(b, byte(len(one)>>8), byte(len(one)))
		b = append(b, one...)
	}
	return b, api.OK
}

// Of is the certificate of bytes: what is read is written anew, and must be just these.
func Of(b []byte) (api.Cert, api.Errno) {
	c := read(b)
	if anew, e := Bytes(c); e != api.OK || !bytes.Equal(anew, b) {
		return api.Cert{}, api.ErrBytes
	}
	return c, api.OK
}

// read is what bytes begin with, as far as that goes. Bytes that are none's are no error here: written anew it is unlike them.
func read(b []byte) api.Cert {
	// next are the next n bytes, or as many as are left.
	next := func(n int) []byte {
		n = min(n, len(b))
		piece := b[:n]
		b = b[n:]
		return piece
	}
	number := func(width int) int {
		n := 0
		for _, x := range next(width) {
			n = n<<8 | int(x)
		}
		return n
	}
	var c api.Cert
	c.Link.Source, _ = codec.PointOf(next(pointSize))
	c.Link.Target, _ = codec.PointOf(next(pointSize))
votes:
	for range number(countWidth) {
		switch v, e := codec.VoteOf(next(number(sizeWidth))); e {
		case api.OK:
			c.Votes = append(c.Votes, v)
		default:
			break votes
		}
	}
	return c
}
