package share_test

import (
	"math"
	"math/big"
	"slices"
	"testing"

	"wardmote/api"
	"wardmote/share"
	"wardmote/wide"
)

// The chapter's examples.
func TestExamples(t *testing.T) {
	for _, x := range []struct {
		call string
		f    func() (api.Share, api.Errno)
		want string
		e    api.Errno
	}{
		{"Of(6, -4)", func() (api.Share, api.Errno) { return share.Of(6, -4) }, "-3/2", api.OK},
		{"Of(0, -5)", func() (api.Share, api.Errno) { return share.Of(0, -5) }, "0", api.OK},
		{"Of(1, 0)", func() (api.Share, api.Errno) { return share.Of(1, 0) }, "", api.ErrZero},
		{"Add(1/6, 1/3)", func() (api.Share, api.Errno) { return share.Add(of("1/6"), of("1/3")) }, "1/2", api.OK},
		{"Div(1/2, -3/4)", func() (api.Share, api.Errno) { return share.Div(of("1/2"), of("-3/4")) }, "-2/3", api.OK},
		{"Div(1, 0)", func() (api.Share, api.Errno) { return share.Div(of("1"), of("0")) }, "", api.ErrZero},
		{"Max(1/2, 2/3)", func() (api.Share, api.Errno) { return share.Max(of("1/2"), of("2/3")) }, "2/3", api.OK},
	} {
		got, e := x.f()
		if x.e != api.OK {
			checkError(t, got, e, x.e, x.call)
			continue
		}
		check(t, got, e, number(x.want), x.call)
	}
	for _, x := range []struct {
		call string
		f    func(a api.Share) (api.Wide, api.Errno)
		text string
		want int
	}{
		{"Floor", share.Floor, "-1/2", -1}, {"Ceil", share.Ceil, "-1/2", 0}, {"Near", share.Near, "-1/2", 0}, {"Near", share.Near, "1/2", 1},
	} {
		if got, e := x.f(of(x.text)); got != wide.Of(x.want) || e != api.OK {
			t.Errorf("%s(%s): %v, error %d; want %d", x.call, x.text, bigOf(got), e, x.want)
		}
	}
}

// P2.1

func TestCheck(t *testing.T) {
	valid := append(edges(), samples(300)...)
	valid = append(valid, whole(api.Wide{}), whole(least), whole(greatest), over(greatest), api.Share{N: least, D: greatest}, api.Share{N: wide.Of(-3), D: wide.Of(2)})
	for _, a := range valid {
		if e := share.Check(a); e != api.OK {
			t.Errorf("Check(%v / %v): error %d", bigOf(a.N), bigOf(a.D), e)
		}
	}
	for _, a := range invalid() {
		if e := share.Check(a); e != api.ErrShare {
			t.Errorf("Check(%v / %v): error %d; want ErrShare", bigOf(a.N), bigOf(a.D), e)
		}
	}
}

// checkMake compares Make with a number of math/big.
func checkMake(t *testing.T, n, d api.Wide) {
	t.Helper()
	got, e := share.Make(n, d)
	if wide.Sign(d) == 0 {
		checkError(t, got, e, api.ErrZero, "Make", bigOf(n), 0)
		return
	}
	check(t, got, e, new(big.Rat).SetFrac(bigOf(n), bigOf(d)), "Make", bigOf(n), bigOf(d))
}

func TestMake(t *testing.T) {
	parts := []api.Wide{least, greatest, {}}
	for _, a := range append(edges(), samples(40)...) {
		parts = append(parts, a.N, a.D)
	}
	slices.SortFunc(parts, wide.Cmp)
	parts = slices.Compact(parts)
	for _, n := range parts {
		for _, d := range parts {
			checkMake(t, n, d)
		}
	}
}

func TestMakeAtTheLimits(t *testing.T) {
	one, minusOne, half := wide.Of(1), wide.Of(-1), api.Wide{7: 1 << 62}
	for _, x := range []struct {
		n, d api.Wide
		want api.Share
		e    api.Errno
	}{
		{least, one, whole(least), api.OK},
		{least, minusOne, api.Share{}, api.ErrBig},
		{least, wide.Of(-2), whole(half), api.OK},
		{least, least, whole(one), api.OK},
		{api.Wide{}, least, whole(api.Wide{}), api.OK},
		{one, least, api.Share{}, api.ErrBig},
		{minusOne, least, api.Share{}, api.ErrBig},
		{wide.Of(2), least, api.Share{N: minusOne, D: half}, api.OK},
		{greatest, minusOne, of("-" + bigOf(greatest).String()), api.OK},
		{least, greatest, api.Share{N: least, D: greatest}, api.OK},
		{greatest, least, api.Share{}, api.ErrBig},
		{least, api.Wide{}, api.Share{}, api.ErrZero},
		{api.Wide{}, api.Wide{}, api.Share{}, api.ErrZero},
	} {
		if got, e := share.Make(x.n, x.d); got != x.want || e != x.e {
			t.Errorf("Make(%v, %v): %v, error %d; want %v, error %d", bigOf(x.n), bigOf(x.d), got, e, x.want, x.e)
		}
	}
}

func TestOf(t *testing.T) {
	for _, n := range []int{0, 1, -1, 6, -6, 60, math.MaxInt, math.MinInt} {
		for _, d := range []int{1, -1, 4, -4, 5, -5, 60, math.MaxInt, math.MinInt} {
			got, e := share.Of(n, d)
			check(t, got, e, big.NewRat(1, 1).SetFrac(big.NewInt(int64(n)), big.NewInt(int64(d))), "Of", n, d)
		}
		got, e := share.Of(n, 0)
		checkError(t, got, e, api.ErrZero, "Of", n, 0)
	}
}

// P2.2

func TestOperationsOfOne(t *testing.T) {
	for _, a := range append(edges(), samples(300)...) {
		x := ratOf(a)
		got, e := share.Neg(a)
		check(t, got, e, new(big.Rat).Neg(x), "Neg", x)
		got, e = share.Abs(a)
		check(t, got, e, new(big.Rat).Abs(x), "Abs", x)
	}
	for _, a := range []api.Share{whole(least), {N: least, D: wide.Of(3)}} {
		got, e := share.Neg(a)
		checkError(t, got, e, api.ErrBig, "Neg", ratOf(a))
		got, e = share.Abs(a)
		checkError(t, got, e, api.ErrBig, "Abs", ratOf(a))
	}
	for _, a := range invalid() {
		got, e := share.Neg(a)
		checkError(t, got, e, api.ErrShare, "Neg", a)
		got, e = share.Abs(a)
		checkError(t, got, e, api.ErrShare, "Abs", a)
	}
}

func checkOperations(t *testing.T, a, b api.Share) {
	t.Helper()
	x, y := ratOf(a), ratOf(b)
	got, e := share.Add(a, b)
	check(t, got, e, new(big.Rat).Add(x, y), "Add", x, y)
	got, e = share.Sub(a, b)
	check(t, got, e, new(big.Rat).Sub(x, y), "Sub", x, y)
	got, e = share.Mul(a, b)
	check(t, got, e, new(big.Rat).Mul(x, y), "Mul", x, y)
	got, e = share.Div(a, b)
	if y.Sign() == 0 {
		checkError(t, got, e, api.ErrZero, "Div", x, y)
	} else {
		check(t, got, e, new(big.Rat).Quo(x, y), "Div", x, y)
	}
	lesser, greater := x, y
	if x.Cmp(y) > 0 {
		lesser, greater = y, x
	}
	got, e = share.Min(a, b)
	check(t, got, e, lesser, "Min", x, y)
	got, e = share.Max(a, b)
	check(t, got, e, greater, "Max", x, y)
	if order, e := share.Cmp(a, b); order != x.Cmp(y) || e != api.OK {
		t.Errorf("Cmp(%v, %v): %d, error %d", x, y, order, e)
	}
}

func TestOperationsOfTwo(t *testing.T) {
	l := append(edges(), samples(150)...)
	for i, a := range l {
		for k := i % 11; k < len(l); k += 11 { // all pairs would take long
			checkOperations(t, a, l[k])
		}
		checkOperations(t, a, a)
	}
}

// operations are the functions of two shares that return a share.
func operations() map[string]func(a, b api.Share) (api.Share, api.Errno) {
	return map[string]func(a, b api.Share) (api.Share, api.Errno){
		"Add": share.Add, "Sub": share.Sub, "Mul": share.Mul, "Div": share.Div, "Min": share.Min, "Max": share.Max,
	}
}

func TestOperationsAtTheLimits(t *testing.T) {
	one, minusOne, half := wide.Of(1), wide.Of(-1), api.Wide{7: 1 << 62}
	minusHalf, _ := wide.Neg(half)
	for _, x := range []struct {
		call string
		a, b api.Share
		want api.Share
		e    api.Errno
	}{
		// results whose parts are at the limits, and beyond them
		{"Add", whole(greatest), whole(one), api.Share{}, api.ErrBig},
		{"Add", whole(half), whole(half), api.Share{}, api.ErrBig},
		{"Add", whole(minusHalf), whole(minusHalf), whole(least), api.OK},
		{"Add", whole(least), whole(minusOne), api.Share{}, api.ErrBig},
		{"Sub", whole(minusOne), whole(least), whole(greatest), api.OK},
		{"Sub", whole(api.Wide{}), whole(least), api.Share{}, api.ErrBig},
		{"Add", over(half), over(greatest), api.Share{}, api.ErrBig},
		{"Add", whole(greatest), of("1/2"), api.Share{}, api.ErrBig},
		{"Mul", whole(least), whole(minusOne), api.Share{}, api.ErrBig},
		{"Mul", whole(half), whole(wide.Of(-2)), whole(least), api.OK},
		{"Mul", whole(half), whole(wide.Of(2)), api.Share{}, api.ErrBig},
		{"Mul", over(half), of("1/2"), api.Share{}, api.ErrBig},
		{"Div", whole(one), whole(least), api.Share{}, api.ErrBig},
		{"Div", whole(minusOne), whole(greatest), api.Share{N: minusOne, D: greatest}, api.OK},
		{"Div", whole(half), of("-1/2"), whole(least), api.OK},
		{"Div", whole(half), of("1/2"), api.Share{}, api.ErrBig},
		// only what is met on the way is beyond the limits
		{"Sub", over(greatest), over(greatest), whole(api.Wide{}), api.OK},
		{"Add", whole(least), whole(greatest), whole(minusOne), api.OK},
		{"Add", api.Share{N: least, D: greatest}, whole(one), api.Share{N: minusOne, D: greatest}, api.OK},
		{"Add", over(half), over(half), over(api.Wide{7: 1 << 61}), api.OK},
		{"Mul", api.Share{N: least, D: wide.Of(3)}, api.Share{N: wide.Of(3), D: half}, whole(wide.Of(-2)), api.OK},
		{"Mul", api.Share{N: half, D: greatest}, api.Share{N: greatest, D: half}, whole(one), api.OK},
		{"Div", whole(least), whole(least), whole(one), api.OK},
		{"Div", whole(api.Wide{}), whole(least), whole(api.Wide{}), api.OK},
		{"Div", over(greatest), over(greatest), whole(one), api.OK},
		{"Div", whole(least), of("-2"), whole(half), api.OK},
		{"Min", api.Share{N: least, D: greatest}, whole(minusOne), api.Share{N: least, D: greatest}, api.OK},
		{"Max", over(greatest), over(half), over(half), api.OK},
	} {
		if got, e := operations()[x.call](x.a, x.b); got != x.want || e != x.e {
			t.Errorf("%s(%v, %v): %v, error %d; want %v, error %d", x.call, ratOf(x.a), ratOf(x.b), got, e, x.want, x.e)
		}
	}
}

func TestErrorsOfOperations(t *testing.T) {
	for name, operation := range operations() {
		for _, bad := range invalid() {
			for _, good := range []api.Share{of("0"), of("1/2"), whole(least), whole(greatest), over(greatest)} {
				got, e := operation(bad, good) // also where the division is by 0
				checkError(t, got, e, api.ErrShare, name, bad, good)
				got, e = operation(good, bad)
				checkError(t, got, e, api.ErrShare, name, good, bad)
			}
			got, e := operation(bad, bad)
			checkError(t, got, e, api.ErrShare, name, bad, bad)
		}
	}
	for _, a := range []api.Share{of("0"), of("-1/2"), whole(least), over(greatest)} {
		got, e := share.Div(a, of("0"))
		checkError(t, got, e, api.ErrZero, "Div", a, 0)
	}
}

// P2.3

func checkSum(t *testing.T, l []api.Share) {
	t.Helper()
	want := new(big.Rat)
	for _, a := range l {
		want.Add(want, ratOf(a))
	}
	before := slices.Clone(l)
	got, e := share.Sum(l)
	check(t, got, e, want, "Sum", len(l))
	if !slices.Equal(l, before) {
		t.Errorf("Sum of %d elements wrote to them", len(l))
	}
}

func TestSum(t *testing.T) {
	checkSum(t, nil)
	checkSum(t, []api.Share{})
	for _, count := range []int{1, 2, 3, 10, 40} {
		l := samples(count)
		checkSum(t, l)
		// The negatives take away all but the first element, or the half of it.
		for _, a := range l[1:] {
			b, _ := share.Neg(a)
			l = append(l, b)
		}
		checkSum(t, l)
		b, e := share.Mul(l[0], of("-1/2"))
		if e == api.OK {
			checkSum(t, append(l, b))
		}
	}
	checkSum(t, slices.Repeat([]api.Share{of("1/3"), of("-1/4"), of("5/6")}, 100))
	for n := range 5 {
		checkSum(t, slices.Repeat([]api.Share{whole(least)}, n))
		checkSum(t, slices.Repeat([]api.Share{over(greatest)}, n))
	}
}

func TestSumThatIsTooLargeOnlyOnTheWay(t *testing.T) {
	got, e := share.Sum([]api.Share{whole(greatest), whole(greatest), whole(least), whole(least), of("1/2")})
	check(t, got, e, number("-3/2"), "Sum")
	// Pairs of denominators of 511 bits: the common one of half of the list has some hundred thousand bits.
	var l []api.Share
	for i := range 199 {
		denominator := new(big.Int).Sub(power(2, 511), big.NewInt(int64(2*i+1)))
		l = append(l, api.Share{N: wide.Of(1), D: wideOf(denominator)})
	}
	for _, a := range l {
		b, _ := share.Neg(a)
		l = append(l, b)
	}
	l = append(l, of("7/5"))
	got, e = share.Sum(l)
	check(t, got, e, number("7/5"), "Sum", len(l))
	got, e = share.Sum(l[1:])
	check(t, got, e, new(big.Rat).Sub(number("7/5"), ratOf(l[0])), "Sum", len(l)-1)
	got, e = share.Sum(l[2:])
	checkError(t, got, e, api.ErrBig, "Sum", len(l)-2)
	got, e = share.Sum(l[:199])
	checkError(t, got, e, api.ErrBig, "Sum", 199)
}

func TestErrorsOfSum(t *testing.T) {
	if api.ShareSum != 400 {
		t.Fatalf("ShareSum is %d", api.ShareSum)
	}
	l := slices.Repeat([]api.Share{of("1/400")}, 401)
	got, e := share.Sum(l[:400])
	check(t, got, e, number("1"), "Sum", 400)
	got, e = share.Sum(l)
	checkError(t, got, e, api.ErrLong, "Sum", 401)
	for _, bad := range invalid() {
		for _, at := range []int{0, 200, 399, 400} {
			l := slices.Clone(l)
			l[at] = bad
			got, e = share.Sum(l)
			checkError(t, got, e, api.ErrLong, "Sum", 401, bad)
			if at < 400 {
				got, e = share.Sum(l[:400])
				checkError(t, got, e, api.ErrShare, "Sum", 400, bad)
			}
		}
		got, e = share.Sum([]api.Share{whole(greatest), whole(greatest), bad})
		checkError(t, got, e, api.ErrShare, "Sum", "too large", bad)
	}
	got, e = share.Sum(slices.Repeat([]api.Share{{}}, 401))
	checkError(t, got, e, api.ErrLong, "Sum", 401)
}

func TestPow(t *testing.T) {
	for _, a := range append(edges(), samples(100)...) {
		want := number("1")
		for n := range 8 {
			got, e := share.Pow(a, n)
			check(t, got, e, want, "Pow", ratOf(a), n)
			want.Mul(want, ratOf(a))
		}
	}
	for _, text := range []string{"0", "1", "-1", "1/2", "-2", "-2/3", "3/2"} {
		want := number("1")
		for n := range 601 {
			got, e := share.Pow(of(text), n)
			check(t, got, e, want, "Pow", text, n)
			want.Mul(want, number(text))
		}
	}
}

func TestPowAtTheLimits(t *testing.T) {
	for _, x := range []struct {
		text string
		n    int
		want api.Share
		e    api.Errno
	}{
		{"0", 0, of("1"), api.OK},
		{"0", 600, of("0"), api.OK},
		{"-1", 600, of("1"), api.OK},
		{"-1", 599, of("-1"), api.OK},
		{"-2", 511, whole(least), api.OK},
		{"-2", 512, api.Share{}, api.ErrBig},
		{"2", 511, api.Share{}, api.ErrBig},
		{"1/2", 510, over(api.Wide{7: 1 << 62}), api.OK},
		{"1/2", 511, api.Share{}, api.ErrBig},
		{"-1/2", 511, api.Share{}, api.ErrBig},
		{"1/2", 600, api.Share{}, api.ErrBig},
		{"0", -1, api.Share{}, api.ErrArg},
		{"0", 601, api.Share{}, api.ErrArg},
		{"2", 601, api.Share{}, api.ErrArg},
		{"1/2", -1, api.Share{}, api.ErrArg},
		{"1", math.MaxInt, api.Share{}, api.ErrArg},
		{"1", math.MinInt, api.Share{}, api.ErrArg},
	} {
		if got, e := share.Pow(of(x.text), x.n); got != x.want || e != x.e {
			t.Errorf("Pow(%s, %d): %v, error %d; want %v, error %d", x.text, x.n, got, e, x.want, x.e)
		}
	}
	for _, bad := range invalid() {
		for _, n := range []int{-1, 0, 1, 600, 601} {
			got, e := share.Pow(bad, n)
			checkError(t, got, e, api.ErrShare, "Pow", bad, n)
		}
	}
}

// P2.4

func TestSign(t *testing.T) {
	for _, a := range append(edges(), samples(300)...) {
		if got, e := share.Sign(a); got != ratOf(a).Sign() || e != api.OK {
			t.Errorf("Sign(%v): %d, error %d", ratOf(a), got, e)
		}
	}
}

func TestCmp(t *testing.T) {
	near := []api.Share{ // each one is a little greater than the one before it
		whole(least), {N: least, D: wide.Of(3)}, {N: least, D: greatest}, of("-1"), {N: wide.Of(-1), D: greatest}, of("0"),
		over(greatest), over(api.Wide{7: 1 << 62}), {N: wideOf(new(big.Int).Sub(power(2, 511), big.NewInt(2))), D: greatest}, of("1"), whole(greatest),
	}
	for i, a := range near {
		for k, b := range near {
			want := 0
			switch {
			case i < k:
				want = -1
			case i > k:
				want = 1
			}
			if got, e := share.Cmp(a, b); got != want || e != api.OK {
				t.Errorf("Cmp(%v, %v): %d, error %d", ratOf(a), ratOf(b), got, e)
			}
		}
	}
}

// floor returns the greatest integer that is at most x.
func floor(x *big.Rat) *big.Int {
	return new(big.Int).Div(x.Num(), x.Denom())
}

func checkRounding(t *testing.T, a api.Share) {
	t.Helper()
	x := ratOf(a)
	up := floor(new(big.Rat).Neg(x))
	up.Neg(up)
	nearest := floor(new(big.Rat).Add(x, number("1/2")))
	for _, call := range []struct {
		name string
		f    func(a api.Share) (api.Wide, api.Errno)
		want *big.Int
	}{{"Floor", share.Floor, floor(x)}, {"Ceil", share.Ceil, up}, {"Near", share.Near, nearest}} {
		if got, e := call.f(a); bigOf(got).Cmp(call.want) != 0 || e != api.OK {
			t.Errorf("%s(%v): %v, error %d; want %v", call.name, x, bigOf(got), e, call.want)
		}
	}
}

func TestFloorCeilAndNear(t *testing.T) {
	for _, a := range append(edges(), samples(500)...) {
		checkRounding(t, a)
	}
	for n := -40; n <= 40; n++ {
		for d := 1; d <= 8; d++ {
			a, _ := share.Of(n, d)
			checkRounding(t, a)
		}
	}
	for _, a := range []api.Share{
		whole(least), whole(greatest), over(greatest), {N: least, D: greatest}, {N: greatest, D: wide.Of(2)},
		{N: wideOf(new(big.Int).Neg(bigOf(greatest))), D: wide.Of(2)}, {N: api.Wide{7: 1 << 62}, D: greatest},
		{N: wideOf(new(big.Int).Sub(power(2, 510), big.NewInt(1))), D: greatest},
	} {
		checkRounding(t, a)
	}
}

func TestErrorsOfOrderAndRounding(t *testing.T) {
	for _, bad := range invalid() {
		sign, e := share.Sign(bad)
		checkError(t, sign, e, api.ErrShare, "Sign", bad)
		order, e := share.Cmp(bad, of("1"))
		checkError(t, order, e, api.ErrShare, "Cmp", bad, 1)
		order, e = share.Cmp(of("1"), bad)
		checkError(t, order, e, api.ErrShare, "Cmp", 1, bad)
		n, e := share.Floor(bad)
		checkError(t, n, e, api.ErrShare, "Floor", bad)
		n, e = share.Ceil(bad)
		checkError(t, n, e, api.ErrShare, "Ceil", bad)
		n, e = share.Near(bad)
		checkError(t, n, e, api.ErrShare, "Near", bad)
	}
}

// P2.7

// lawsHold checks the laws of a field for three shares, where all results exist.
func lawsHold(t *testing.T, a, b, c api.Share) {
	t.Helper()
	exist := true
	made := func(f func(a, b api.Share) (api.Share, api.Errno), a, b api.Share) api.Share {
		if !exist {
			return api.Share{}
		}
		result, e := f(a, b)
		exist = e == api.OK
		return result
	}
	equal := func(law string, x, y api.Share) {
		t.Helper()
		if exist && x != y {
			t.Errorf("%s does not hold for %v, %v, %v", law, ratOf(a), ratOf(b), ratOf(c))
		}
		exist = true
	}
	equal("a + b = b + a", made(share.Add, a, b), made(share.Add, b, a))
	equal("a b = b a", made(share.Mul, a, b), made(share.Mul, b, a))
	equal("(a + b) + c = a + (b + c)", made(share.Add, made(share.Add, a, b), c), made(share.Add, a, made(share.Add, b, c)))
	equal("(a b) c = a (b c)", made(share.Mul, made(share.Mul, a, b), c), made(share.Mul, a, made(share.Mul, b, c)))
	equal("a (b + c) = a b + a c", made(share.Mul, a, made(share.Add, b, c)), made(share.Add, made(share.Mul, a, b), made(share.Mul, a, c)))
	equal("(a + b) - b = a", made(share.Sub, made(share.Add, a, b), b), a)
	equal("(a b) / b = a", made(share.Div, made(share.Mul, a, b), b), a)
}

func TestLawsOfAField(t *testing.T) {
	l := append(samples(12), of("0"), of("1"), of("-1/2"), of("2/3"), of("-5"), over(greatest), whole(least))
	for _, a := range l {
		for _, b := range l {
			for _, c := range l {
				lawsHold(t, a, b, c)
			}
		}
	}
}
