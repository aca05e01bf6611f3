package tx

import (
	"math"
	"slices"

	"drawbridge/api"
	"drawbridge/hash"
	"drawbridge/quorum"
)

// What a number that stands in one byte, and a quality, is at most.
const (
	mostByte    = math.MaxUint8
	mostQuality = math.MaxInt32
)

// May: see the chapter.
func May(t api.Tx) bool { return mayFields(t) && blank(others(t)) }

// mayFields tells whether the kind is one, and the fields that it has are so.
func mayFields(t api.Tx) bool {
	switch t.Kind {
	case api.Coinbase:
		return within(t.Height, 1, api.MaxBlocks) && mayOuts(t.Outs)
	case api.Pay:
		return mayIns(t.Ins) && mayOuts(t.Outs) && mayForwards(t.Forwards) && len(t.Outs)+len(t.Forwards) > 0
	case api.Create:
		return quorum.May(t.Params)
	case api.Certify:
		return mayCert(t.Cert)
	case api.Withdraw:
		return mayClaim(t.Claim)
	}
	return false
}

// others is t without the fields that its kind has.
func others(t api.Tx) api.Tx {
	switch t.Kind {
	case api.Coinbase:
		t.Height, t.Outs = 0, nil
	case api.Pay:
		t.Ins, t.Outs, t.Forwards = nil, nil, nil
	case api.Create:
		t.Params = api.Params{}
	case api.Certify:
		t.Cert = api.Cert{}
	case api.Withdraw:
		t.Claim = api.Claim{}
	}
	return t
}

// blank tells whether all fields but the kind are zero. A list is, if it is empty.
func blank(t api.Tx) bool {
	p, c := t.Params, t.Cert
	return t.Height == 0 && len(t.Ins) == 0 && len(t.Outs) == 0 && len(t.Forwards) == 0 &&
		p.Length == 0 && p.Window == 0 && p.Need == 0 && len(p.Keys) == 0 &&
		c.Side == 0 && c.Epoch == 0 && c.Quality == 0 && hash.Zero(c.End) && hash.Zero(c.Root) &&
		len(c.Outs) == 0 && len(c.Sigs) == 0 &&
		t.Claim == api.Claim{}
}

// mayIns tells whether these may be spent together: a map has the Points, so that one
// that is spent twice is seen.
func mayIns(l []api.In) bool {
	if !mayList(l, 1, api.MaxIns, mayIn) {
		return false
	}
	spent := map[api.Point]struct{}{}
	for _, in := range l {
		spent[in.From] = struct{}{}
	}
	return len(spent) == len(l)
}

func mayIn(in api.In) bool { return within(in.From.At, 0, mostByte) && maySig(in.Sig) }

func maySig(s api.Sig) bool { return within(s.Index, 0, mostByte) }

func mayOuts(l []api.Out) bool { return mayList(l, 0, api.MaxOuts, mayOut) }

func mayOut(o api.Out) bool { return mayHave(o.To, o.Amount) }

func mayForwards(l []api.Forward) bool { return mayList(l, 0, api.MaxOuts, mayForward) }

func mayForward(f api.Forward) bool {
	return mayPlace(f.Side, f.Account) && mayHave(f.Owner, f.Amount)
}

func mayCert(c api.Cert) bool {
	return maySide(c.Side) &&
		within(c.Epoch, 0, api.MaxBlocks) &&
		within(c.Quality, 0, mostQuality) &&
		mayOuts(c.Outs) &&
		mayList(c.Sigs, 1, api.MaxKeys, maySigned)
}

// maySigned asks the Key against the most that there may be: how many the sidechain has
// is not told here.
func maySigned(s api.Signed) bool { return within(s.Key, 0, api.MaxKeys-1) && maySig(s.Sig) }

func mayClaim(c api.Claim) bool {
	return mayPlace(c.Side, c.Account) &&
		mayHave(c.State.Owner, c.State.Amount) &&
		within(c.State.Nonce, 0, mostByte)
}

func maySide(side int) bool { return within(side, 0, api.MaxSides-1) }

func mayPlace(side, account int) bool {
	return maySide(side) && within(account, 0, api.Accounts-1)
}

// mayHave tells whether it is somebody, and some money.
func mayHave(owner api.Hash, amount int) bool {
	return !hash.Zero(owner) && within(amount, 1, api.MaxMoney)
}

// mayList tells whether there are neither too few nor too many, and each may be. Their
// number is asked ahead: of too many none is looked at.
func mayList[T any](l []T, fewest, most int, may func(T) bool) bool {
	return within(len(l), fewest, most) && !slices.ContainsFunc(l, func(x T) bool { return !may(x) })
}

// within tells whether n is from low to high.
func within(n, low, high int) bool { return low <= n && n <= high }
