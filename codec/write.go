package codec

import (
	"landmark/api"
	"landmark/sha"
	"landmark/wire"
)

// What stands ahead of bytes that are summed or signed, so that those of one kind are no other kind's.
const (
	headerSign = "header"
	voteSign   = "vote"
)

// The rows below are made of what may be alone: each number has room in its width, each blob is short enough.

func numberRow(n uint64, width int) []byte {
	b, _ := wire.Put(n, width)
	return b
}

func validatorRow(n int) []byte { return numberRow(uint64(n), validatorWidth) }

func countRow(n int) []byte { return numberRow(uint64(n), countWidth) }

func pointRow(p api.Point) []byte { return wire.Join(numberRow(p.Epoch, epochWidth), p.Name[:]) }

// linkRow is what a vote says: all of it but its signature.
func linkRow(v api.Vote) []byte {
	return wire.Join(validatorRow(v.Validator), pointRow(v.Source), pointRow(v.Target))
}

func textRow(v api.Vote) []byte { return wire.Join([]byte(voteSign), linkRow(v)) }

func voteRow(v api.Vote) []byte {
	sig, _ := wire.Blob(v.Sig)
	return wire.Join(linkRow(v), sig)
}

func opRow(o api.HeaderOp) []byte {
	names := named(o.Kind)
	row := numberRow(uint64(o.Kind), kindWidth)
	if names.has(partValidator) {
		row = wire.Join(row, validatorRow(o.Validator))
	}
	if names.has(partKey) {
		row = wire.Join(row, o.Key[:])
	}
	if names.has(partStake) {
		row = wire.Join(row, numberRow(o.Stake, stakeWidth))
	}
	if names.has(partEvidence) {
		row = wire.Join(row, listRow(o.Evidence, voteRow))
	}
	return row
}

func headerRow(h api.Header) []byte {
	return wire.Join(h.Parent[:], numberRow(h.Epoch, epochWidth), countRow(len(h.Ops)), listRow(h.Ops, opRow))
}

func keyedRow(v api.Validator) []byte { return wire.Join(v.Key[:], numberRow(v.Stake, stakeWidth)) }

func anchorRow(a api.Anchor) []byte {
	return wire.Join(pointRow(a.Point), countRow(len(a.Validators)), listRow(a.Validators, keyedRow),
		numberRow(a.Churn, stakeWidth), numberRow(a.Decay, stakeWidth))
}

// listRow is the rows of a list, one behind the other.
func listRow[T any](l []T, row func(T) []byte) []byte {
	rows := make([][]byte, 0, len(l))
	for _, x := range l {
		rows = append(rows, row(x))
	}
	return wire.Join(rows...)
}

// rowOf is the row of what may be.
func rowOf[T any](x T, may func(T) bool, row func(T) []byte) ([]byte, api.Errno) {
	if !may(x) {
		return nil, api.ErrArg
	}
	return row(x), api.OK
}

// PointBytes is a checkpoint's bytes.
func PointBytes(p api.Point) ([]byte, api.Errno) { return rowOf(p, MayPoint, pointRow) }

// VoteBytes is a vote's bytes.
func VoteBytes(v api.Vote) ([]byte, api.Errno) { return rowOf(v, MayVote, voteRow) }

// HeaderBytes is a header's bytes.
func HeaderBytes(h api.Header) ([]byte, api.Errno) { return rowOf(h, MayHeader, headerRow) }

// AnchorBytes is an anchor's bytes.
func AnchorBytes(a api.Anchor) ([]byte, api.Errno) { return rowOf(a, MayAnchor, anchorRow) }

// Text is what is signed of a vote.
func Text(v api.Vote) ([]byte, api.Errno) { return rowOf(v, MayVote, textRow) }

// Name is a header's name.
func Name(h api.Header) (api.Hash, api.Errno) {
	b, e := HeaderBytes(h)
	if e != api.OK {
		return api.Hash{}, e
	}
	return sha.Sum([]byte(headerSign), b), api.OK
}
