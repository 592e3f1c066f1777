package share

import (
	"strings"

	"wardmote/api"
	"wardmote/vast"
	"wardmote/wide"
)

const slash = "/"

// Text returns the text of a, or ErrShare.
func Text(a api.Share) (string, api.Errno) {
	if e := check(a); e != api.OK {
		return "", e
	}
	text := wide.Text(a.N)
	if a.D != wide.Of(1) {
		text += slash + wide.Text(a.D)
	}
	return text, api.OK
}

// Parse returns the share that s is the text of; ErrForm or ErrBig.
func Parse(s string) (api.Share, api.Errno) {
	number, rest := cut(s)
	n, e := wide.Parse(number)
	d, f := denominator(rest)
	a := api.Share{N: n, D: d}
	switch {
	case e == api.ErrForm || f == api.ErrForm:
		return api.Share{}, api.ErrForm
	case e == api.ErrBig || f == api.ErrBig:
		return api.Share{}, api.ErrBig
	case check(a) != api.OK || rest == slash+"1":
		return api.Share{}, api.ErrForm
	}
	return a, api.OK
}

// cut returns the signs and digits that s begins with, and what stands behind them.
func cut(s string) (number, rest string) {
	end := 0
octets:
	for ; end < len(s); end++ {
		switch s[end] {
		case '-', '0', '1', '2', '3', '4', '5', '6', '7', '8', '9':
		default:
			break octets
		}
	}
	return s[:end], s[end:]
}

// denominator returns the denominator that rest has behind a slash (1 for nothing at all); ErrForm or ErrBig.
func denominator(rest string) (api.Wide, api.Errno) {
	if rest == "" {
		return wide.Of(1), api.OK
	}
	digits, behindSlash := strings.CutPrefix(rest, slash)
	if !behindSlash || digits == "0" || strings.HasPrefix(digits, "-") {
		return api.Wide{}, api.ErrForm
	}
	return wide.Parse(digits)
}

// Decimal returns the decimal text of a with so many places; ErrShare or ErrArg.
func Decimal(a api.Share, places int) (string, api.Errno) {
	if e := check(a); e != api.OK {
		return "", e
	}
	if places < 0 || places > api.SharePlaces {
		return "", api.ErrArg
	}
	return vast.OfShare(a).Decimal(places), api.OK
}
