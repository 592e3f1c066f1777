package wide_test

import (
	"math"
	"math/big"
	"strings"
	"testing"

	"wardmote/api"
	"wardmote/wide"
)

// P1.1

func TestOfHasTheWordsOfTheTerms(t *testing.T) {
	for n, want := range map[int]api.Wide{
		0:             {},
		1:             {1},
		-1:            {ones, ones, ones, ones, ones, ones, ones, ones},
		-2:            {ones - 1, ones, ones, ones, ones, ones, ones, ones},
		math.MaxInt64: {1<<63 - 1},
		math.MinInt64: {1 << 63, ones, ones, ones, ones, ones, ones, ones},
	} {
		if got := wide.Of(n); got != want {
			t.Errorf("Of(%d): %x; want %x", n, got, want)
		}
	}
}

func TestIntInvertsOfAndRejectsTheRest(t *testing.T) {
	for _, n := range []int{0, 1, -1, 17, -17, math.MaxInt64, math.MaxInt64 - 1, math.MinInt64, math.MinInt64 + 1} {
		if got, e := wide.Int(wide.Of(n)); got != n || e != api.OK {
			t.Errorf("Int(Of(%d)): %d, error %d", n, got, e)
		}
	}
	for _, a := range append(edges(), samples(300)...) {
		want, f := int(0), api.ErrBig
		if b := bigOf(a); b.IsInt64() {
			want, f = int(b.Int64()), api.OK
		}
		if got, e := wide.Int(a); got != want || e != f {
			t.Errorf("Int(%v): %d, error %d; want %d, error %d", bigOf(a), got, e, want, f)
		}
	}
	for _, a := range []api.Wide{{1 << 63}, {7: 1}, {5, 1}, {1<<63 - 1, ones, ones, ones, ones, ones, ones, ones}, least, greatest} {
		if got, e := wide.Int(a); got != 0 || e != api.ErrBig {
			t.Errorf("Int(%v): %d, error %d; want ErrBig", bigOf(a), got, e)
		}
	}
}

func TestSignAndCmp(t *testing.T) {
	l := append(edges(), samples(60)...)
	for _, a := range l {
		if got, want := wide.Sign(a), bigOf(a).Sign(); got != want {
			t.Errorf("Sign(%v): %d", bigOf(a), got)
		}
		for _, b := range l {
			if got, want := wide.Cmp(a, b), bigOf(a).Cmp(bigOf(b)); got != want {
				t.Errorf("Cmp(%v, %v): %d; want %d", bigOf(a), bigOf(b), got, want)
			}
		}
	}
	for i := range 8 { // each word counts
		var a, b api.Wide
		a[i], b[i] = 1, 2
		if wide.Cmp(a, b) != -1 || wide.Cmp(b, a) != 1 || wide.Cmp(a, a) != 0 || wide.Sign(a) != 1 {
			t.Errorf("word %d does not count", i)
		}
	}
}

// P1.2

func TestNegAndAbs(t *testing.T) {
	for _, a := range append(edges(), samples(300)...) {
		got, e := wide.Neg(a)
		check(t, got, e, new(big.Int).Neg(bigOf(a)), "Neg", bigOf(a))
		got, e = wide.Abs(a)
		check(t, got, e, new(big.Int).Abs(bigOf(a)), "Abs", bigOf(a))
	}
	got, e := wide.Neg(least)
	checkError(t, got, e, api.ErrBig, "Neg", "-2^511")
	got, e = wide.Abs(least)
	checkError(t, got, e, api.ErrBig, "Abs", "-2^511")
}

func TestAddSubAndMul(t *testing.T) {
	l := append(edges(), samples(150)...)
	for _, a := range l {
		for _, b := range l {
			x, y := bigOf(a), bigOf(b)
			got, e := wide.Add(a, b)
			check(t, got, e, new(big.Int).Add(x, y), "Add", x, y)
			got, e = wide.Sub(a, b)
			check(t, got, e, new(big.Int).Sub(x, y), "Sub", x, y)
			got, e = wide.Mul(a, b)
			check(t, got, e, new(big.Int).Mul(x, y), "Mul", x, y)
		}
	}
}

func TestSumsAndProductsAtTheLimits(t *testing.T) {
	one, minusOne := wide.Of(1), wide.Of(-1)
	power255, power256 := api.Wide{3: 1 << 63}, api.Wide{4: 1}
	minus255, _ := wide.Neg(power255)
	for _, x := range []struct {
		call string
		f    func(a, b api.Wide) (api.Wide, api.Errno)
		a, b api.Wide
		want api.Wide
		e    api.Errno
	}{
		{"2^511 - 1 + 1", wide.Add, greatest, one, api.Wide{}, api.ErrBig},
		{"-2^511 + -1", wide.Add, least, minusOne, api.Wide{}, api.ErrBig},
		{"-2^511 + -2^511", wide.Add, least, least, api.Wide{}, api.ErrBig},
		{"-2^511 + 2^511 - 1", wide.Add, least, greatest, minusOne, api.OK},
		{"0 - -2^511", wide.Sub, api.Wide{}, least, api.Wide{}, api.ErrBig},
		{"-1 - -2^511", wide.Sub, minusOne, least, greatest, api.OK},
		{"-2^511 - -2^511", wide.Sub, least, least, api.Wide{}, api.OK},
		{"2^511 - 1 - -1", wide.Sub, greatest, minusOne, api.Wide{}, api.ErrBig},
		{"2^255 * 2^255", wide.Mul, power255, power255, api.Wide{7: 1 << 62}, api.OK},
		{"2^255 * 2^256", wide.Mul, power255, power256, api.Wide{}, api.ErrBig},
		{"2^256 * 2^256", wide.Mul, power256, power256, api.Wide{}, api.ErrBig},
		{"2^256 * -2^255", wide.Mul, power256, minus255, least, api.OK},
		{"-2^511 * 1", wide.Mul, least, one, least, api.OK},
		{"-2^511 * -1", wide.Mul, least, minusOne, api.Wide{}, api.ErrBig},
		{"-2^511 * 0", wide.Mul, least, api.Wide{}, api.Wide{}, api.OK},
		{"-1 * 0", wide.Mul, minusOne, api.Wide{}, api.Wide{}, api.OK},
		{"-2^511 * -2^511", wide.Mul, least, least, api.Wide{}, api.ErrBig},
		{"(2^511 - 1) * (2^511 - 1)", wide.Mul, greatest, greatest, api.Wide{}, api.ErrBig},
	} {
		if got, e := x.f(x.a, x.b); got != x.want || e != x.e {
			t.Errorf("%s: %v, error %d; want %v, error %d", x.call, bigOf(got), e, bigOf(x.want), x.e)
		}
	}
}

// P1.3

// checkDivision compares a division with that of math/big, whose remainder is not negative either.
func checkDivision(t *testing.T, a, b api.Wide) {
	t.Helper()
	q, r, e := wide.Div(a, b)
	if wide.Sign(b) == 0 {
		if q != (api.Wide{}) || r != (api.Wide{}) || e != api.ErrZero {
			t.Errorf("Div(%v, 0): %v, %v, error %d; want ErrZero", bigOf(a), bigOf(q), bigOf(r), e)
		}
		return
	}
	quotient, remainder := new(big.Int).DivMod(bigOf(a), bigOf(b), new(big.Int))
	check(t, q, e, quotient, "quotient of Div", bigOf(a), bigOf(b))
	check(t, r, api.OK, remainder, "remainder of Div", bigOf(a), bigOf(b))
}

func TestDiv(t *testing.T) {
	l := append(edges(), samples(200)...)
	for _, a := range l {
		for _, b := range l {
			checkDivision(t, a, b)
		}
	}
}

// A multiple of the divisor, and the numbers beside it, have quotients that are nearly guessed wrong.
func TestDivBesideMultiples(t *testing.T) {
	l := samples(120)
	for _, a := range l {
		for _, b := range l {
			if product, e := wide.Mul(a, b); e == api.OK {
				for _, d := range []int{-1, 0, 1} {
					beside, _ := wide.Add(product, wide.Of(d))
					checkDivision(t, beside, b)
				}
			}
		}
	}
}

func TestDivSignsAndErrors(t *testing.T) {
	for _, x := range []struct{ a, b, q, r int }{
		{-7, 2, -4, 1}, {7, -2, -3, 1}, {-7, -2, 4, 1}, {7, 2, 3, 1}, {-6, 2, -3, 0}, {-6, -2, 3, 0},
		{0, 5, 0, 0}, {0, -5, 0, 0}, {-1, 5, -1, 4}, {-1, -5, 1, 4}, {1, -5, 0, 1},
	} {
		q, r, e := wide.Div(wide.Of(x.a), wide.Of(x.b))
		if q != wide.Of(x.q) || r != wide.Of(x.r) || e != api.OK {
			t.Errorf("Div(%d, %d): %v, %v, error %d", x.a, x.b, bigOf(q), bigOf(r), e)
		}
	}
	for _, x := range []struct {
		a, b api.Wide
		e    api.Errno
	}{{least, wide.Of(-1), api.ErrBig}, {wide.Of(1), api.Wide{}, api.ErrZero}, {api.Wide{}, api.Wide{}, api.ErrZero}, {least, api.Wide{}, api.ErrZero}} {
		if q, r, e := wide.Div(x.a, x.b); q != (api.Wide{}) || r != (api.Wide{}) || e != x.e {
			t.Errorf("Div(%v, %v): %v, %v, error %d; want error %d", bigOf(x.a), bigOf(x.b), bigOf(q), bigOf(r), e, x.e)
		}
	}
	if q, r, e := wide.Div(least, wide.Of(1)); q != least || r != (api.Wide{}) || e != api.OK {
		t.Errorf("Div(-2^511, 1): %v, %v, error %d", bigOf(q), bigOf(r), e)
	}
}

func checkGcd(t *testing.T, a, b api.Wide) {
	t.Helper()
	x, y := bigOf(a), bigOf(b)
	got, e := wide.Gcd(a, b)
	check(t, got, e, new(big.Int).GCD(nil, nil, new(big.Int).Abs(x), new(big.Int).Abs(y)), "Gcd", x, y)
}

func TestGcd(t *testing.T) {
	l := append(edges(), samples(150)...)
	for _, a := range l {
		for _, b := range l {
			checkGcd(t, a, b)
		}
	}
}

func TestGcdOfMultiples(t *testing.T) {
	l := samples(60)
	for _, a := range l {
		for _, b := range l {
			for _, factor := range l[:20] {
				x, e := wide.Mul(a, factor)
				y, f := wide.Mul(b, factor)
				if e == api.OK && f == api.OK {
					checkGcd(t, x, y)
				}
			}
		}
	}
}

// Neighbouring Fibonacci numbers lead to as many steps of Euclid's algorithm as there can be.
func TestGcdOfFibonacciNumbers(t *testing.T) {
	a, b := wide.Of(0), wide.Of(1)
	steps := 0
	for {
		checkGcd(t, a, b)
		checkGcd(t, b, a)
		next, e := wide.Add(a, b)
		if e != api.OK {
			break
		}
		a, b = b, next
		steps++
	}
	if steps < 700 {
		t.Errorf("only %d Fibonacci numbers", steps)
	}
}

func TestGcdSignsAndErrors(t *testing.T) {
	for _, x := range []struct{ a, b, want int }{
		{-12, 18, 6}, {12, -18, 6}, {-12, -18, 6}, {0, 0, 0}, {0, -5, 5}, {5, 0, 5}, {1, 0, 1}, {17, 19, 1},
	} {
		got, e := wide.Gcd(wide.Of(x.a), wide.Of(x.b))
		if got != wide.Of(x.want) || e != api.OK {
			t.Errorf("Gcd(%d, %d): %v, error %d", x.a, x.b, bigOf(got), e)
		}
	}
	for _, x := range [][2]api.Wide{{least, {}}, {{}, least}, {least, least}} {
		got, e := wide.Gcd(x[0], x[1])
		checkError(t, got, e, api.ErrBig, "Gcd", bigOf(x[0]), bigOf(x[1]))
	}
	if got, e := wide.Gcd(least, api.Wide{7: 1 << 62}); got != (api.Wide{7: 1 << 62}) || e != api.OK {
		t.Errorf("Gcd(-2^511, 2^510): %v, error %d", bigOf(got), e)
	}
}

// P1.4

func TestPow(t *testing.T) {
	for base := -12; base <= 12; base++ {
		for n := 0; n <= api.WidePower; n++ {
			got, e := wide.Pow(wide.Of(base), n)
			check(t, got, e, power(int64(base), int64(n)), "Pow", base, n)
		}
	}
	for _, a := range append(edges(), samples(200)...) {
		for n := range 10 {
			got, e := wide.Pow(a, n)
			check(t, got, e, new(big.Int).Exp(bigOf(a), big.NewInt(int64(n)), nil), "Pow", bigOf(a), n)
		}
	}
}

func TestPowLimitsAndErrors(t *testing.T) {
	for _, x := range []struct {
		a    api.Wide
		n    int
		want api.Wide
		e    api.Errno
	}{
		{wide.Of(-2), 511, least, api.OK},
		{wide.Of(2), 511, api.Wide{}, api.ErrBig},
		{wide.Of(2), 510, api.Wide{7: 1 << 62}, api.OK},
		{wide.Of(-2), 512, api.Wide{}, api.ErrBig},
		{wide.Of(-2), 600, api.Wide{}, api.ErrBig},
		{wide.Of(0), 0, wide.Of(1), api.OK},
		{wide.Of(0), 600, wide.Of(0), api.OK},
		{wide.Of(1), 600, wide.Of(1), api.OK},
		{wide.Of(-1), 600, wide.Of(1), api.OK},
		{wide.Of(-1), 599, wide.Of(-1), api.OK},
		{least, 0, wide.Of(1), api.OK},
		{least, 1, least, api.OK},
		{least, 2, api.Wide{}, api.ErrBig},
		{greatest, 1, greatest, api.OK},
		{wide.Of(1), 601, api.Wide{}, api.ErrArg},
		{wide.Of(2), 601, api.Wide{}, api.ErrArg},
		{wide.Of(1), -1, api.Wide{}, api.ErrArg},
		{wide.Of(1), math.MaxInt64, api.Wide{}, api.ErrArg},
		{least, math.MinInt64, api.Wide{}, api.ErrArg},
	} {
		if got, e := wide.Pow(x.a, x.n); got != x.want || e != x.e {
			t.Errorf("Pow(%v, %d): %v, error %d; want %v, error %d", bigOf(x.a), x.n, bigOf(got), e, bigOf(x.want), x.e)
		}
	}
}

func checkRoot(t *testing.T, a api.Wide) {
	t.Helper()
	got, e := wide.Root(a)
	if wide.Sign(a) < 0 {
		checkError(t, got, e, api.ErrArg, "Root", bigOf(a))
		return
	}
	check(t, got, e, new(big.Int).Sqrt(bigOf(a)), "Root", bigOf(a))
}

func TestRoot(t *testing.T) {
	for n := -20; n <= 2000; n++ {
		checkRoot(t, wide.Of(n))
	}
	for _, a := range append(edges(), samples(1000)...) {
		checkRoot(t, a)
		if square, e := wide.Mul(a, a); e == api.OK {
			for _, d := range []int{-1, 0, 1} {
				beside, _ := wide.Add(square, wide.Of(d))
				checkRoot(t, beside)
			}
		}
	}
	for a, want := range map[int]int{0: 0, 1: 1, 3: 1, 4: 2, 80: 8, 81: 9, 82: 9} {
		if got, e := wide.Root(wide.Of(a)); got != wide.Of(want) || e != api.OK {
			t.Errorf("Root(%d): %v, error %d", a, bigOf(got), e)
		}
	}
	got, e := wide.Root(wide.Of(-1))
	checkError(t, got, e, api.ErrArg, "Root", -1)
	got, e = wide.Root(least)
	checkError(t, got, e, api.ErrArg, "Root", "-2^511")
}

// P1.5

func TestText(t *testing.T) {
	l := append(edges(), samples(300)...)
	for n := range 154 { // zeros inside and at the end
		tens, _ := wide.Pow(wide.Of(10), n)
		below, _ := wide.Sub(tens, wide.Of(1))
		minus, _ := wide.Neg(tens)
		l = append(l, tens, below, minus)
	}
	for _, a := range l {
		if got, want := wide.Text(a), bigOf(a).String(); got != want {
			t.Errorf("Text: %q; want %q", got, want)
		}
	}
	if got := wide.Text(least); len(got) != 155 || got[0] != '-' {
		t.Errorf("Text(-2^511): %q", got)
	}
	if got := wide.Text(api.Wide{}); got != "0" {
		t.Errorf("Text(0): %q", got)
	}
}

func TestParseRejectsWhatIsNoText(t *testing.T) {
	long := strings.Repeat("9", 1000)
	for _, s := range []string{
		"", "-", "--", "--1", "-0", "00", "017", "-017", "-00", "+1", "+0", " 1", "1 ", "1\n", "1-", "1-2", "0x1", "a", "1a", "1_0", "1.0",
		"\x00", "1\x00", "\xff", "1\xff", "\u0661", "\uff11", "\u22121", "0" + long, long + "x", "x" + long, "-0" + long, long + "-",
	} {
		got, e := wide.Parse(s)
		checkError(t, got, e, api.ErrForm, "Parse", s)
	}
}

func TestParseLimits(t *testing.T) {
	limit := power(2, 511)
	for d := int64(-2); d <= 2; d++ {
		m := new(big.Int).Add(limit, big.NewInt(d))
		for range 2 {
			got, e := wide.Parse(m.String())
			check(t, got, e, m, "Parse", m)
			m.Neg(m)
		}
	}
	for _, n := range []int64{512, 513, 575, 576, 640, 1024} {
		for d := int64(-1); d <= 1; d++ {
			m := power(2, n)
			m.Add(m, big.NewInt(d))
			for range 2 {
				got, e := wide.Parse(m.String())
				checkError(t, got, e, api.ErrBig, "Parse", m)
				m.Neg(m)
			}
		}
	}
	for _, s := range []string{strings.Repeat("9", 154), "1" + strings.Repeat("0", 154), "-1" + strings.Repeat("0", 100000)} {
		got, e := wide.Parse(s)
		checkError(t, got, e, api.ErrBig, "Parse", len(s))
	}
	for s, want := range map[string]int{"0": 0, "-17": -17, "17": 17, "9": 9, "-1": -1, "-9223372036854775808": math.MinInt64} {
		if got, e := wide.Parse(s); got != wide.Of(want) || e != api.OK {
			t.Errorf("Parse(%q): %v, error %d", s, bigOf(got), e)
		}
	}
}

// P1.6

func TestParseInvertsText(t *testing.T) {
	for _, a := range append(edges(), samples(300)...) {
		if got, e := wide.Parse(wide.Text(a)); got != a || e != api.OK {
			t.Errorf("Parse(Text(%v)): %v, error %d", bigOf(a), bigOf(got), e)
		}
	}
}

func TestLawsOfSumsAndProducts(t *testing.T) {
	l := samples(40)
	for _, a := range l {
		for _, b := range l {
			x, e := wide.Mul(a, b)
			y, f := wide.Mul(b, a)
			if x != y || e != f {
				t.Errorf("the product of %v and %v depends on the order", bigOf(a), bigOf(b))
			}
			if q, r, f := wide.Div(x, b); e == api.OK && wide.Sign(b) != 0 && (q != a || r != (api.Wide{}) || f != api.OK) {
				t.Errorf("the product of %v and %v by the latter: %v, %v, error %d", bigOf(a), bigOf(b), bigOf(q), bigOf(r), f)
			}
			for _, c := range l {
				checkDistributiveLaw(t, a, b, c)
			}
		}
	}
}

// checkDistributiveLaw compares a (b + c) with a b + a c, if all of these exist.
func checkDistributiveLaw(t *testing.T, a, b, c api.Wide) {
	t.Helper()
	sum, e := wide.Add(b, c)
	left, f := wide.Mul(a, sum)
	x, g := wide.Mul(a, b)
	y, h := wide.Mul(a, c)
	if e != api.OK || f != api.OK || g != api.OK || h != api.OK {
		return
	}
	if right, e := wide.Add(x, y); right != left || e != api.OK {
		t.Errorf("%v (%v + %v): %v, and %v, error %d", bigOf(a), bigOf(b), bigOf(c), bigOf(left), bigOf(right), e)
	}
}

func TestGcdDividesBothNumbers(t *testing.T) {
	l := samples(80)
	for _, a := range l {
		for _, b := range l {
			d, e := wide.Gcd(a, b)
			if e != api.OK || wide.Sign(d) == 0 {
				continue
			}
			for _, x := range []api.Wide{a, b} {
				if _, r, e := wide.Div(x, d); r != (api.Wide{}) || e != api.OK {
					t.Errorf("Gcd(%v, %v) = %v does not divide %v", bigOf(a), bigOf(b), bigOf(d), bigOf(x))
				}
			}
		}
	}
}
