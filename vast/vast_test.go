package vast

import (
	"math/big"
	"math/rand"
	"slices"
	"testing"

	"wardmote/api"
	"wardmote/wide"
)

// The tests compare package vast with math/big.

func bigOf(m natural) *big.Int {
	n := new(big.Int)
	for i := len(m) - 1; i >= 0; i-- {
		n.Lsh(n, 64)
		n.Or(n, new(big.Int).SetUint64(m[i]))
	}
	return n
}

func naturalOf(n *big.Int) natural {
	var words []uint64
	for rest := new(big.Int).Set(n); rest.Sign() > 0; rest.Rsh(rest, 64) {
		words = append(words, new(big.Int).And(rest, new(big.Int).SetUint64(1<<64-1)).Uint64())
	}
	return words
}

// ratOf returns the number that f is, and checks that f is in lowest terms.
func ratOf(t *testing.T, f Fraction) *big.Rat {
	t.Helper()
	n, d := bigOf(f.size), bigOf(f.denominator)
	if f.negative {
		n.Neg(n)
	}
	if d.Sign() == 0 {
		t.Fatalf("a fraction has the denominator 0")
	}
	x := new(big.Rat).SetFrac(n, d)
	if x.Num().Cmp(n) != 0 || x.Denom().Cmp(d) != 0 || f.negative && n.Sign() == 0 {
		t.Errorf("%v / %v (negative: %v) is not in lowest terms", n, d, f.negative)
	}
	return x
}

func fractionOf(x *big.Rat) Fraction {
	size := naturalOf(new(big.Int).Abs(x.Num()))
	return Fraction{signed(size, x.Sign() < 0), naturalOf(x.Denom())}
}

// naturals have up to so many words; half of them have words at their limits, which lead long division to its rare
// cases.
func naturals(count, most int) []natural {
	r := rand.New(rand.NewSource(3))
	limits := []uint64{0, 1, 2, 1<<63 - 1, 1 << 63, 1<<63 + 1, 1<<64 - 2, 1<<64 - 1}
	l := []natural{nil, {1}, {2}, {1 << 63}, {1<<64 - 1}, {7: 1 << 63}, {7: 1 << 62}, {8: 1}}
	for i := range count {
		words := make([]uint64, 1+r.Intn(most))
		for k := range words {
			words[k] = r.Uint64() >> r.Intn(64)
			if i%2 == 0 {
				words[k] = limits[r.Intn(len(limits))]
			}
		}
		l = append(l, trimmed(words))
	}
	return l
}

func checkNatural(t *testing.T, got natural, want *big.Int, call string, m, n natural) {
	t.Helper()
	if bigOf(got).Cmp(want) != 0 || len(got) > 0 && got[len(got)-1] == 0 {
		t.Errorf("%s of %x and %x: %x; want %x", call, bigOf(m), bigOf(n), bigOf(got), want)
	}
}

func TestNaturals(t *testing.T) {
	l := naturals(150, 20)
	for _, m := range l {
		for _, n := range l {
			before, beside := slices.Clone(m), slices.Clone(n)
			x, y := bigOf(m), bigOf(n)
			if got := m.compare(n); got != x.Cmp(y) {
				t.Errorf("%x and %x are compared as %d", x, y, got)
			}
			checkNatural(t, m.sum(n), new(big.Int).Add(x, y), "sum", m, n)
			checkNatural(t, m.product(n), new(big.Int).Mul(x, y), "product", m, n)
			checkNatural(t, m.commonDivisor(n), new(big.Int).GCD(nil, nil, x, y), "common divisor", m, n)
			if x.Cmp(y) >= 0 {
				checkNatural(t, m.difference(n), new(big.Int).Sub(x, y), "difference", m, n)
			}
			if len(n) > 0 {
				quotient, remainder := m.divide(n)
				q, r := new(big.Int).QuoRem(x, y, new(big.Int))
				checkNatural(t, quotient, q, "quotient", m, n)
				checkNatural(t, remainder, r, "remainder", m, n)
				checkNatural(t, m.over(n), q, "quotient", m, n)
				checkNatural(t, m.modulo(n), r, "remainder", m, n)
			}
			if !slices.Equal(m, before) || !slices.Equal(n, beside) {
				t.Errorf("an operation wrote to its operands %x and %x", bigOf(before), bigOf(beside))
			}
		}
	}
}

// A multiple of the divisor, and the numbers beside it, have quotients that are nearly guessed wrong.
func TestDivisionBesideMultiples(t *testing.T) {
	l := naturals(100, 12)
	for _, m := range l {
		for _, n := range l {
			if len(m) == 0 || len(n) == 0 {
				continue
			}
			product := m.product(n)
			for _, beside := range []natural{product.difference(natural{1}), product, product.sum(natural{1})} {
				quotient, remainder := beside.divide(n)
				q, r := new(big.Int).QuoRem(bigOf(beside), bigOf(n), new(big.Int))
				checkNatural(t, quotient, q, "quotient", beside, n)
				checkNatural(t, remainder, r, "remainder", beside, n)
			}
		}
	}
}

func TestCommonDivisorsOfMultiples(t *testing.T) {
	l := naturals(40, 30)
	for _, m := range l {
		for _, n := range l {
			x, y := m.product(l[20]), n.product(l[20])
			checkNatural(t, x.commonDivisor(y), new(big.Int).GCD(nil, nil, bigOf(x), bigOf(y)), "common divisor", x, y)
		}
	}
}

// Numbers for which Euclid's algorithm takes the most steps, and such that begin with the same words.
func TestCommonDivisorsOfLongNumbers(t *testing.T) {
	a, b := big.NewInt(1), big.NewInt(1)
	for range 9000 {
		a, b = b, a.Add(a, b)
	}
	l := []natural{naturalOf(a), naturalOf(b)}
	for _, m := range naturals(16, 150) {
		high := naturalOf(new(big.Int).Lsh(a, 64))
		l = append(l, m, high.sum(m), high.product(m))
	}
	for _, m := range l {
		for _, n := range l {
			checkNatural(t, m.commonDivisor(n), new(big.Int).GCD(nil, nil, bigOf(m), bigOf(n)), "common divisor", m, n)
		}
	}
}

// checkRoots compares the roots of the square of m and of the numbers beside it.
func checkRoots(t *testing.T, m natural) {
	t.Helper()
	square := m.product(m)
	l := []natural{m, square, square.sum(natural{1}), square.sum(m).sum(m)}
	if len(m) > 0 {
		l = append(l, square.difference(natural{1}))
	}
	for _, n := range l {
		before := slices.Clone(n)
		checkNatural(t, n.root(), new(big.Int).Sqrt(bigOf(n)), "root", n, nil)
		if !slices.Equal(n, before) {
			t.Errorf("the root of %x was written to it", bigOf(before))
		}
	}
}

func TestRoots(t *testing.T) {
	for _, m := range naturals(400, 20) {
		checkRoots(t, m)
	}
	for n := range uint64(300) {
		checkRoots(t, trimmed([]uint64{n}))
	}
	for n := range 200 { // around the powers of two, from which the steps begin
		m := powerOfTwo(n)
		if bigOf(m).Cmp(new(big.Int).Lsh(big.NewInt(1), uint(n))) != 0 {
			t.Errorf("%x is 2^%d", bigOf(m), n)
		}
		checkRoots(t, m)
		checkRoots(t, m.sum(natural{1}))
		checkRoots(t, m.difference(natural{1}))
	}
}

func TestDigits(t *testing.T) {
	l := naturals(300, 20)
	for n := range 200 { // zeros inside and at the end
		tens := new(big.Int).Exp(big.NewInt(10), big.NewInt(int64(n)), nil)
		l = append(l, naturalOf(tens), naturalOf(tens).difference(natural{1}), naturalOf(tens).sum(natural{1}))
	}
	for _, m := range l {
		if got, want := m.digits(), bigOf(m).String(); got != want {
			t.Errorf("digits: %s; want %s", got, want)
		}
	}
}

func TestWideNumbersAtTheLimits(t *testing.T) {
	least, greatest := api.Wide{7: 1 << 63}, api.Wide{7: 1<<63 - 1}
	for i := range 7 {
		greatest[i] = 1<<64 - 1
	}
	for _, a := range []api.Wide{{}, wide.Of(1), wide.Of(-1), least, greatest} {
		got, e := OfWide(a).Share()
		if want := (api.Share{N: a, D: wide.Of(1)}); got != want || e != api.OK {
			t.Errorf("%v as a fraction, as a share: %v, error %d", a, got, e)
		}
		if OfWide(a).Sign() != wide.Sign(a) {
			t.Errorf("%v has the sign %d", a, OfWide(a).Sign())
		}
	}
	one := OfWide(wide.Of(1))
	for _, f := range []Fraction{
		OfWide(least).Negated(), OfWide(least).Minus(one), OfWide(greatest).Plus(one), OfWide(least).Times(OfWide(least)),
		OfWide(least).Plus(OfWide(least)), one.Over(OfWide(least)), one.Over(OfWide(least).Minus(one)), one.Over(OfWide(least).Times(OfWide(least))),
	} {
		if got, e := f.Share(); got != (api.Share{}) || e != api.ErrBig {
			t.Errorf("%v, as a share: %v, error %d; want ErrBig", ratOf(t, f), got, e)
		}
	}
}

// fractions have parts of up to so many words, and often common divisors.
func fractions(count, most int) []*big.Rat {
	l := naturals(count, most)
	r := rand.New(rand.NewSource(4))
	pick := func() *big.Int {
		return new(big.Int).Mul(bigOf(l[r.Intn(len(l))]), big.NewInt(1+r.Int63n(60)))
	}
	var rats []*big.Rat
	for len(rats) < count {
		n, d := pick(), pick()
		if r.Intn(2) == 0 {
			n.Neg(n)
		}
		if d.Sign() > 0 {
			rats = append(rats, new(big.Rat).SetFrac(n, d))
		}
	}
	return append(rats, new(big.Rat), big.NewRat(1, 1), big.NewRat(-1, 2))
}

func TestOperationsOfFractions(t *testing.T) {
	l := fractions(80, 24)
	for _, x := range l {
		for _, y := range l {
			f, g := fractionOf(x), fractionOf(y)
			for call, result := range map[string][2]*big.Rat{
				"+": {ratOf(t, f.Plus(g)), new(big.Rat).Add(x, y)},
				"-": {ratOf(t, f.Minus(g)), new(big.Rat).Sub(x, y)},
				"*": {ratOf(t, f.Times(g)), new(big.Rat).Mul(x, y)},
			} {
				if result[0].Cmp(result[1]) != 0 {
					t.Errorf("%v %s %v: %v; want %v", x, call, y, result[0], result[1])
				}
			}
			if y.Sign() != 0 {
				if got, want := ratOf(t, f.Over(g)), new(big.Rat).Quo(x, y); got.Cmp(want) != 0 {
					t.Errorf("%v / %v: %v; want %v", x, y, got, want)
				}
			}
			if got := f.Compare(g); got != x.Cmp(y) {
				t.Errorf("%v and %v are compared as %d", x, y, got)
			}
		}
	}
}

func floor(x *big.Rat) *big.Int {
	return new(big.Int).Div(x.Num(), x.Denom())
}

func TestRoundingOfFractions(t *testing.T) {
	l := fractions(200, 24)
	for n := int64(-20); n <= 20; n++ {
		l = append(l, big.NewRat(n, 4), big.NewRat(n, 3))
	}
	for _, x := range l {
		f := fractionOf(x)
		up := floor(new(big.Rat).Neg(x))
		for call, result := range map[string]struct {
			got  Fraction
			want *big.Rat
		}{
			"negative": {f.Negated(), new(big.Rat).Neg(x)},
			"absolute": {f.Absolute(), new(big.Rat).Abs(x)},
			"floor":    {f.Floor(), new(big.Rat).SetInt(floor(x))},
			"ceiling":  {f.Ceiling(), new(big.Rat).SetInt(up.Neg(up))},
			"nearest":  {f.Nearest(), new(big.Rat).SetInt(floor(new(big.Rat).Add(x, big.NewRat(1, 2))))},
		} {
			if got := ratOf(t, result.got); got.Cmp(result.want) != 0 {
				t.Errorf("%s of %v: %v; want %v", call, x, got, result.want)
			}
		}
		if f.Sign() != x.Sign() {
			t.Errorf("%v has the sign %d", x, f.Sign())
		}
		if root := floor(x); root.Sign() >= 0 {
			if got := ratOf(t, f.Root()); got.Cmp(new(big.Rat).SetInt(root.Sqrt(root))) != 0 {
				t.Errorf("root of %v: %v; want %v", x, got, root)
			}
		}
	}
}

func TestDecimalTexts(t *testing.T) {
	for _, x := range []struct {
		n, d   int64
		places int
		want   string
	}{
		{-1, 8, 2, "-0.12"}, {1, 8, 2, "0.13"}, {1, 3, 4, "0.3333"}, {5, 2, 0, "3"}, {-5, 2, 0, "-2"}, {-1, 1000, 2, "0.00"}, {0, 1, 0, "0"},
		{0, 1, 3, "0.000"}, {999, 1000, 2, "1.00"}, {12, 1, 1, "12.0"}, {-1, 3, 25, "-0.3333333333333333333333333"},
	} {
		if got := fractionOf(big.NewRat(x.n, x.d)).Decimal(x.places); got != x.want {
			t.Errorf("%d / %d with %d places: %s; want %s", x.n, x.d, x.places, got, x.want)
		}
	}
}

func TestKeys(t *testing.T) {
	l := append(fractions(150, 20), big.NewRat(1, 256), big.NewRat(256, 1), new(big.Rat).SetInt(new(big.Int).Lsh(big.NewInt(1), 64)))
	l = append(l, new(big.Rat).Inv(l[len(l)-1]))
	for _, x := range l {
		l = append(l, new(big.Rat).Neg(x))
	}
	numbers := map[Key]*big.Rat{}
	for _, x := range l {
		key := fractionOf(x).Key()
		if before, isThere := numbers[key]; isThere && before.Cmp(x) != 0 {
			t.Errorf("%v and %v have the same key", before, x)
		}
		numbers[key] = x
		// The same number, by way of others.
		f := fractionOf(x).Plus(fractionOf(l[9])).Minus(fractionOf(l[9])).Times(fractionOf(big.NewRat(-6, 4))).Over(fractionOf(big.NewRat(-3, 2)))
		if f.Key() != key {
			t.Errorf("%v has the keys %v and %v", x, key, f.Key())
		}
	}
}
