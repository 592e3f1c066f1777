// Package wide is layer 1: integers of 512 bits. See doc/01-wide.md.
package wide

import (
	"cmp"
	"strings"

	"wardmote/api"
)

// Of returns the wide integer n.
func Of(n int) api.Wide {
	a := api.Wide{uint64(n)}
	for i := 1; i < words; i++ {
		if n < 0 {
			a[i] = allOnes
		}
	}
	return a
}

// Int returns a, or ErrBig if an int cannot hold it.
func Int(a api.Wide) (int, api.Errno) {
	n := int(a[0])
	if Of(n) != a {
		return 0, api.ErrBig
	}
	return n, api.OK
}

// Sign returns -1, 0 or 1.
func Sign(a api.Wide) int {
	return Cmp(a, api.Wide{})
}

// Cmp returns -1, 0 or 1 if a is less than, equal to or greater than b.
func Cmp(a, b api.Wide) int {
	// Only the highest word has a sign; behind equal ones the others count as those of a magnitude.
	if order := cmp.Compare(int64(a[words-1]), int64(b[words-1])); order != 0 {
		return order
	}
	return magnitude(a).compare(magnitude(b))
}

// Neg returns the negative of a, or ErrBig.
func Neg(a api.Wide) (api.Wide, api.Errno) {
	return combine(api.Wide{}, '-', a)
}

// Abs returns the absolute value of a, or ErrBig.
func Abs(a api.Wide) (api.Wide, api.Errno) {
	if Sign(a) < 0 {
		return Neg(a)
	}
	return a, api.OK
}

// Add returns a + b, or ErrBig.
func Add(a, b api.Wide) (api.Wide, api.Errno) {
	return combine(a, '+', b)
}

// Sub returns a - b, or ErrBig.
func Sub(a, b api.Wide) (api.Wide, api.Errno) {
	return combine(a, '-', b)
}

// Mul returns the product of a and b, or ErrBig.
func Mul(a, b api.Wide) (api.Wide, api.Errno) {
	return combine(a, '*', b)
}

// combine carries out one of the operations that any two integers have.
func combine(a api.Wide, operation rune, b api.Wide) (api.Wide, api.Errno) {
	operations := map[rune]func(signed, signed) (signed, bool){
		'+': signed.plus,
		'-': signed.minus,
		'*': signed.times,
	}
	return wideOf(operations[operation](signedOf(a), signedOf(b)))
}

// Div returns the quotient of a by b and the remainder, which is not negative; ErrZero or ErrBig.
func Div(a, b api.Wide) (q, r api.Wide, e api.Errno) {
	if Sign(b) == 0 {
		return q, r, api.ErrZero
	}
	quotient, remainder := signedOf(a).over(signedOf(b))
	if q, e = wideOf(quotient, true); e != api.OK {
		return q, r, e
	}
	return q, api.Wide(remainder), api.OK
}

// Gcd returns the greatest common divisor of a and b, or ErrBig.
func Gcd(a, b api.Wide) (api.Wide, api.Errno) {
	divisor := signedOf(a).commonDivisor(signedOf(b).magnitude)
	return wideOf(signed{magnitude: divisor}, true)
}

// Pow returns the n-th power of a; ErrArg or ErrBig.
func Pow(a api.Wide, n int) (api.Wide, api.Errno) {
	if n < 0 || n > api.WidePower {
		return api.Wide{}, api.ErrArg
	}
	return wideOf(signedOf(a).power(n))
}

// Root returns the greatest integer whose square is at most a, or ErrArg.
func Root(a api.Wide) (api.Wide, api.Errno) {
	if Sign(a) < 0 {
		return api.Wide{}, api.ErrArg
	}
	return api.Wide(magnitude(a).root()), api.OK
}

// Text returns the decimal text of a.
func Text(a api.Wide) string {
	number := signedOf(a)
	if number.negative {
		return "-" + number.digits()
	}
	return number.digits()
}

// Parse returns the integer that s is the text of; ErrForm or ErrBig.
func Parse(s string) (api.Wide, api.Errno) {
	digits, negative := strings.CutPrefix(s, "-")
	if !isNumeral(digits) || negative && digits == "0" {
		return api.Wide{}, api.ErrForm
	}
	size, fits := read(digits)
	return wideOf(signed{size, negative}, fits)
}
