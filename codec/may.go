package codec

import "landmark/api"

// An anchor's bounds.
const (
	mostChurn = 1 << 62
	mostDecay = 1 << 62
)

func mayValidator(n int) bool { return 1 <= n && n <= api.MaxValidators }

func mayStake(stake uint64) bool { return 1 <= stake && stake <= api.MaxStake }

// mayKeyed is whether somebody may be of an anchor; its key may be any.
func mayKeyed(v api.Validator) bool { return mayStake(v.Stake) }

func mayEvidence(l []api.Vote) bool { return len(l) == evidenceSize && allMay(l, MayVote) }

// allMay is whether each of a list may be.
func allMay[T any](l []T, may func(T) bool) bool {
	for _, x := range l {
		if !may(x) {
			return false
		}
	}
	return true
}

// unlikeKeys is whether no two of some validators have one key.
func unlikeKeys(l []api.Validator) bool {
	places := make(map[api.Hash]int, len(l))
	for i, v := range l {
		places[v.Key] = i
	}
	return len(places) == len(l)
}

// MayPoint is whether a checkpoint may be.
func MayPoint(p api.Point) bool { return p.Epoch <= api.MaxEpoch }

// MayVote is whether a vote may be.
func MayVote(v api.Vote) bool {
	return mayValidator(v.Validator) && MayPoint(v.Source) && MayPoint(v.Target) && len(v.Sig) <= api.MaxSig
}

// MayOp is whether an operation may be.
func MayOp(o api.HeaderOp) bool {
	names := named(o.Kind)
	right := func(part parts, isZero, may bool) bool {
		if names.has(part) {
			return may
		}
		return isZero
	}
	return names != 0 &&
		right(partValidator, o.Validator == 0, mayValidator(o.Validator)) &&
		right(partKey, o.Key == api.Hash{}, true) &&
		right(partStake, o.Stake == 0, mayStake(o.Stake)) &&
		right(partEvidence, len(o.Evidence) == 0, mayEvidence(o.Evidence))
}

// MayHeader is whether a header may be.
func MayHeader(h api.Header) bool {
	return 1 <= h.Epoch && h.Epoch <= api.MaxEpoch && len(h.Ops) <= api.MaxOps && allMay(h.Ops, MayOp)
}

// MayAnchor is whether an anchor may be.
func MayAnchor(a api.Anchor) bool {
	count := len(a.Validators)
	return MayPoint(a.Point) &&
		1 <= count && count <= api.MaxValidators && allMay(a.Validators, mayKeyed) && unlikeKeys(a.Validators) &&
		1 <= a.Churn && a.Churn <= mostChurn && a.Decay <= mostDecay
}
