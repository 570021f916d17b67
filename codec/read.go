package codec

import (
	"bytes"

	"landmark/api"
	"landmark/wire"
)

func readHash(r *wire.Reader) api.Hash {
	var h api.Hash
	// A reader that is not whole tells no bytes, and the hash stays zero.
	copy(h[:], r.Bytes(len(h)))
	return h
}

func readValidator(r *wire.Reader) int { return int(r.Number(validatorWidth)) }

func readCount(r *wire.Reader) int { return int(r.Number(countWidth)) }

func readPoint(r *wire.Reader) api.Point {
	return api.Point{Epoch: r.Number(epochWidth), Name: readHash(r)}
}

func readVote(r *wire.Reader) api.Vote {
	return api.Vote{Validator: readValidator(r), Source: readPoint(r), Target: readPoint(r), Sig: r.Blob()}
}

func readOp(r *wire.Reader) api.HeaderOp {
	o := api.HeaderOp{Kind: api.OpKind(r.Number(kindWidth))}
	names := named(o.Kind)
	if names.has(partValidator) {
		o.Validator = readValidator(r)
	}
	if names.has(partKey) {
		o.Key = readHash(r)
	}
	if names.has(partStake) {
		o.Stake = r.Number(stakeWidth)
	}
	if names.has(partEvidence) {
		o.Evidence = readList(r, evidenceSize, readVote, MayVote)
	}
	return o
}

func readHeader(r *wire.Reader) api.Header {
	return api.Header{Parent: readHash(r), Epoch: r.Number(epochWidth), Ops: readList(r, readCount(r), readOp, MayOp)}
}

func readKeyed(r *wire.Reader) api.Validator {
	return api.Validator{Key: readHash(r), Stake: r.Number(stakeWidth)}
}

func readAnchor(r *wire.Reader) api.Anchor {
	return api.Anchor{
		Point:      readPoint(r),
		Validators: readList(r, readCount(r), readKeyed, mayKeyed),
		Churn:      r.Number(stakeWidth),
		Decay:      r.Number(stakeWidth),
	}
}

// readList reads n of a kind, up to the first one that is wrong. A list that is too short for that is no error here: written anew it is unlike what it was read of.
func readList[T any](r *wire.Reader, n int, read func(*wire.Reader) T, may func(T) bool) []T {
	var l []T
list:
	for len(l) < n {
		switch x := read(r); {
		case r.Failed() || !may(x):
			break list
		default:
			l = append(l, x)
		}
	}
	return l
}

// readAll is what bytes are, if they are just what it is written as.
func readAll[T any](b []byte, read func(*wire.Reader) T, write func(T) ([]byte, api.Errno)) (T, api.Errno) {
	x := read(wire.Read(b))
	if anew, e := write(x); e != api.OK || !bytes.Equal(anew, b) {
		var none T
		return none, api.ErrBytes
	}
	return x, api.OK
}

// PointOf is the checkpoint of bytes.
func PointOf(b []byte) (api.Point, api.Errno) { return readAll(b, readPoint, PointBytes) }

// VoteOf is the vote of bytes.
func VoteOf(b []byte) (api.Vote, api.Errno) { return readAll(b, readVote, VoteBytes) }

// HeaderOf is the header of bytes.
func HeaderOf(b []byte) (api.Header, api.Errno) { return readAll(b, readHeader, HeaderBytes) }

// AnchorOf is the anchor of bytes.
func AnchorOf(b []byte) (api.Anchor, api.Errno) { return readAll(b, readAnchor, AnchorBytes) }
