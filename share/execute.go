package share

import (
	"wardmote/api"
	"wardmote/vast"
	"wardmote/wide"
)

// check returns ErrShare if one of the shares is not valid.
func check(shares ...api.Share) api.Errno {
	one := wide.Of(1)
	isValid := func(a api.Share) bool {
		if wide.Sign(a.D) <= 0 {
			return false
		}
		divisor, _ := wide.Gcd(a.N, a.D)
		return divisor == one
	}
	for _, a := range shares {
		if !isValid(a) {
			return api.ErrShare
		}
	}
	return api.OK
}

// withOne returns what an operation makes of a share, or ErrShare.
func withOne[T any](a api.Share, operation func(vast.Fraction) T) (result T, e api.Errno) {
	if e = check(a); e != api.OK {
		return result, e
	}
	return operation(vast.OfShare(a)), api.OK
}

// withTwo returns what an operation makes of two shares, or ErrShare.
func withTwo[T any](a, b api.Share, operation func(f, g vast.Fraction) T) (result T, e api.Errno) {
	if e = check(a, b); e != api.OK {
		return result, e
	}
	return operation(vast.OfShare(a), vast.OfShare(b)), api.OK
}

// shareOf returns the share that a result is, ErrBig if it is none, or the error that came with it.
func shareOf(f vast.Fraction, e api.Errno) (api.Share, api.Errno) {
	if e != api.OK {
		return api.Share{}, e
	}
	return f.Share()
}

// wideOf returns the wide integer that a result is, ErrBig if it is none, or the error that came with it.
func wideOf(f vast.Fraction, e api.Errno) (api.Wide, api.Errno) {
	a, e := shareOf(f, e)
	return a.N, e
}
