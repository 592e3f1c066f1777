package spread

import (
	"wardmote/api"
	"wardmote/share"
)

// check returns ErrSpread if one of the spreads is not valid.
func check(spreads ...api.Spread) api.Errno {
	for _, s := range spreads {
		if !isValid(s) {
			return api.ErrSpread
		}
	}
	return api.OK
}

func isValid(s api.Spread) bool {
	if len(s) == 0 || len(s) > api.MaxMasses {
		return false
	}
	for _, m := range s {
		if checkShares(m.At, m.P) != api.OK {
			return false
		}
	}
	l := massesOf(s)
	for i, m := range l {
		if m.p.Sign() <= 0 || i > 0 && l[i-1].at.Compare(m.at) >= 0 {
			return false
		}
	}
	return isOne(sum(l, mass.probability))
}

// checkShares returns ErrShare if one of the shares is not valid.
func checkShares(shares ...api.Share) api.Errno {
	for _, a := range shares {
		if e := share.Check(a); e != api.OK {
			return e
		}
	}
	return api.OK
}

// checkWith returns ErrSpread or ErrShare if s or a is not valid.
func checkWith(s api.Spread, a api.Share) api.Errno {
	if e := check(s); e != api.OK {
		return e
	}
	return share.Check(a)
}
