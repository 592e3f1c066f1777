package radical_test

import (
	"math"
	"math/big"
	"math/rand"
	"slices"
	"testing"

	"wardmote/api"
	"wardmote/radical"
	"wardmote/share"
	"wardmote/wide"
)

// The tests compare package radical with math/big, and with square parts that are found by trying squares.

const (
	most  = 1000000000000000 // of a Times
	under = 10000000000000   // the greatest Under
)

// r returns a radical with Times and Under of each term in turn.
func r(numbers ...int) api.Radical {
	var l api.Radical
	for i := 0; i < len(numbers); i += 2 {
		l = append(l, api.Term{Times: numbers[i], Under: numbers[i+1]})
	}
	return l
}

// squarePart returns the greatest number whose square divides n, which is positive. One of it and what is left of n is
// at most the cube root of n: so what may be left is tried up to there, rising, and then the number itself, falling.
func squarePart(n int) int {
	limit := int(math.Cbrt(float64(n))) + 2
	for rest := 1; rest <= limit; rest++ {
		if n%rest == 0 {
			if s := floorRoot(n / rest); s*s*rest == n {
				return s
			}
		}
	}
	s := limit
	for n%(s*s) != 0 {
		s--
	}
	return s
}

func floorRoot(n int) int {
	return int(new(big.Int).Sqrt(big.NewInt(int64(n))).Int64())
}

// primeBelow returns the greatest prime number below n.
func primeBelow(n int) int {
	for n--; !big.NewInt(int64(n)).ProbablyPrime(20); n-- {
	}
	return n
}

// squarefree returns so many squarefree numbers from n on, in order.
func squarefree(n, count int) []int {
	var l []int
	for ; len(l) < count; n++ {
		if squarePart(n) == 1 {
			l = append(l, n)
		}
	}
	return l
}

// spanning returns the radical with the same Times for so many squarefree Unders, from n on.
func spanning(n, count, times int) api.Radical {
	var l api.Radical
	for _, u := range squarefree(n, count) {
		l = append(l, api.Term{Times: times, Under: u})
	}
	return l
}

// made returns what Make should return for at most 400 terms that are within their limits.
func made(l []api.Term) (api.Radical, api.Errno) {
	sums := map[int]*big.Int{}
	for _, t := range l {
		if t.Under == 0 {
			continue
		}
		s := squarePart(t.Under)
		rest := t.Under / (s * s)
		if sums[rest] == nil {
			sums[rest] = new(big.Int)
		}
		product := new(big.Int).Mul(big.NewInt(int64(t.Times)), big.NewInt(int64(s)))
		sums[rest].Add(sums[rest], product)
	}
	var result api.Radical
	for rest, sum := range sums {
		if new(big.Int).Abs(sum).Cmp(big.NewInt(most)) > 0 {
			return nil, api.ErrBig
		}
		if sum.Sign() != 0 {
			result = append(result, api.Term{Times: int(sum.Int64()), Under: rest})
		}
	}
	if len(result) > 200 {
		return nil, api.ErrLong
	}
	slices.SortFunc(result, func(a, b api.Term) int { return a.Under - b.Under })
	return result, api.OK
}

// ends returns what the ends of the enclosure should be, multiplied by 2^bits.
func ends(l api.Radical, bits int) (low, high *big.Int) {
	low, high = new(big.Int), new(big.Int)
	for _, t := range l {
		square := big.NewInt(int64(t.Times))
		square.Mul(square, square).Mul(square, big.NewInt(int64(t.Under))).Lsh(square, uint(2*bits))
		down := new(big.Int).Sqrt(square)
		up := new(big.Int).Set(down)
		if new(big.Int).Mul(down, down).Cmp(square) != 0 {
			up.Add(up, big.NewInt(1))
		}
		if t.Times < 0 {
			down, up = up.Neg(up), down.Neg(down)
		}
		low.Add(low, down)
		high.Add(high, up)
	}
	return low, high
}

// compared returns what Cmp should return for valid arguments.
func compared(l api.Radical, a *big.Rat) (int, api.Errno) {
	if len(l) == 0 {
		return -a.Sign(), api.OK
	}
	if l[len(l)-1].Under == 1 {
		return big.NewRat(int64(l[0].Times), 1).Cmp(a), api.OK
	}
	for _, bits := range []int{32, 64, 128, 256, 400} {
		low, high := ends(l, bits)
		if over(low, bits).Cmp(a) > 0 {
			return 1, api.OK
		}
		if over(high, bits).Cmp(a) < 0 {
			return -1, api.OK
		}
	}
	return 0, api.ErrFail
}

// over returns n divided by 2^bits.
func over(n *big.Int, bits int) *big.Rat {
	return new(big.Rat).SetFrac(n, new(big.Int).Lsh(big.NewInt(1), uint(bits)))
}

// shareOf returns the share that x is.
func shareOf(x *big.Rat) api.Share {
	n, e := wide.Parse(x.Num().String())
	d, f := wide.Parse(x.Denom().String())
	if e != api.OK || f != api.OK {
		panic(x.String())
	}
	return api.Share{N: n, D: d}
}

// of returns the share with this text.
func of(text string) api.Share {
	a, e := share.Parse(text)
	if e != api.OK {
		panic(text)
	}
	return a
}

// beside returns the number n / 2^bits + d / 2^500.
func beside(n *big.Int, bits int, d int64) *big.Rat {
	x := over(n, bits)
	return x.Add(x, over(big.NewInt(d), 500))
}

// samples are valid radicals with up to so many terms, some of which have Times and Unders near their limits.
func samples(count, terms int) []api.Radical {
	source := rand.New(rand.NewSource(5))
	large := append(squarefree(under-400, 200), squarefree(1000000000, 100)...)
	var l []api.Radical
	for len(l) < count {
		seen := map[int]bool{}
		var sum api.Radical
		for range source.Intn(terms + 1) {
			t := api.Term{Times: source.Intn(2*most+1) - most, Under: 1 + source.Intn(40)}
			switch source.Intn(6) {
			case 0:
				t.Times = 1 - 2*source.Intn(2)
			case 1:
				t.Times = most * (1 - 2*source.Intn(2))
			}
			if source.Intn(4) == 0 {
				t.Under = large[source.Intn(len(large))]
			}
			if t.Times != 0 && !seen[t.Under] && squarePart(t.Under) == 1 {
				seen[t.Under] = true
				sum = append(sum, t)
			}
		}
		slices.SortFunc(sum, func(a, b api.Term) int { return a.Under - b.Under })
		l = append(l, sum)
	}
	return l
}

// invalid are radicals that are not valid.
func invalid() map[string]api.Radical {
	great := primeBelow(floorRoot(under) + 1)
	return map[string]api.Radical{
		"Under 0":                             r(1, 0),
		"Under -1":                            r(1, -1),
		"Under -2":                            r(1, -2, 1, 3),
		"the least Under":                     r(1, math.MinInt),
		"the greatest Under":                  r(1, math.MaxInt),
		"Under 10^13 + 1":                     r(1, under+1),
		"a squarefree Under above 10^13":      r(1, squarefree(under+1, 1)[0]),
		"a prime Under above 10^13":           r(1, 2, 1, primeBelow(under+100)),
		"Under 4":                             r(1, 4),
		"Under 8":                             r(1, 8),
		"Under 9":                             r(1, 2, 1, 9),
		"Under 12":                            r(1, 12),
		"Under 18":                            r(1, 18),
		"Under 25":                            r(1, 25),
		"Under 49":                            r(1, 49),
		"Under 50":                            r(1, 50),
		"Under 121":                           r(1, 121),
		"Under 10^13":                         r(1, under),
		"Under 10^13 - 1":                     r(1, under-1),
		"the cube of 21529":                   r(1, 21529*21529*21529),
		"three primes, one twice":             r(1, 21529*21529*21523),
		"three primes, the lesser one twice":  r(1, 21523*21523*21529),
		"the square of 21521":                 r(1, 21521*21521),
		"the square of 21557":                 r(1, 21557*21557),
		"the square of 21559, and 2":          r(1, 2*21559*21559),
		"the square of 21563, and 21529":      r(1, 21563*21563*21503),
		"the square of a prime near the root": r(1, great*great),
		"Times 0":                             r(0, 1),
		"Times 0 between others":              r(1, 1, 0, 2, 1, 3),
		"Times 10^15 + 1":                     r(most+1, 2),
		"Times -10^15 - 1":                    r(-most-1, 2),
		"the greatest Times":                  r(math.MaxInt, 1),
		"the least Times":                     r(1, 1, math.MinInt, 2),
		"Unders that fall":                    r(1, 3, 1, 2),
		"Unders that fall at the end":         r(1, 1, 1, 3, 1, 2),
		"one Under twice":                     r(1, 2, 1, 2),
		"one Under twice, with both signs":    r(1, 1, 1, 2, -1, 2),
		"201 terms":                           spanning(1, 201, 1),
		"401 terms":                           spanning(1, 401, 1),
		"a last term that is not valid":       append(spanning(1, 199, 1), api.Term{Times: 1, Under: 9000000}),
	}
}

// checkRadical compares a result with the radical that it should be, or with an error and none.
func checkRadical(t *testing.T, got api.Radical, e api.Errno, want api.Radical, f api.Errno, call string, args ...any) {
	t.Helper()
	if !slices.Equal(got, want) || e != f {
		t.Errorf("%s%v: %v, error %d; want %v, error %d", call, args, got, e, want, f)
	}
	if e := radical.Check(got); e != api.OK {
		t.Errorf("%s%v: %v is not valid", call, args, got)
	}
}
