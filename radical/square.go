package radical

import "wardmote/wide"

// squarePart returns the greatest number whose square divides n, and the squarefree number that is left of n; n is from
// 1 to RadicalUnder.
func squarePart(n int) (square, rest int) {
	square, rest = 1, 1
	// Where p^3 is more than what is left of n, that has at most two prime factors, since those below p are gone.
factors:
	for p := 2; p*p*p <= n; p = nextFactor(p) {
		for n%p == 0 {
			n /= p
			if n%p != 0 {
				rest *= p
				continue factors
			}
			n /= p
			square *= p
		}
	}
	if r := root(n); r*r == n {
		return square * r, rest
	}
	return square, rest * n
}

// nextFactor returns the number to divide by behind p, with which it begins at 2: all prime numbers are among them, since
// only what 2 or 3 divides is left out.
func nextFactor(p int) int {
	switch {
	case p == 2:
		return 3
	case p == 3 || p%6 == 5:
		return p + 2
	}
	return p + 4
}

// root returns the greatest integer whose square is at most n, which is not negative.
func root(n int) int {
	a, _ := wide.Root(wide.Of(n))
	r, _ := wide.Int(a)
	return r
}
