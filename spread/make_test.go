package spread_test

import (
	"math/big"
	"math/rand"
	"slices"
	"testing"

	"wardmote/api"
	"wardmote/spread"
)

// P5.2

func checkTally(t *testing.T, l []*big.Rat) {
	t.Helper()
	var a []api.Share
	for _, x := range l {
		a = append(a, of(x))
	}
	got, e := spread.Tally(a)
	check(t, got, e, tallied(l), "Tally of", len(l))
}

func TestTally(t *testing.T) {
	r := random{rand.New(rand.NewSource(2))}
	for i := range 200 {
		var l []*big.Rat
		for range 1 + r.Intn(30) {
			l = append(l, r.rational([]uint{2, 4, 60, 510}[i%4]))
		}
		checkTally(t, l)
		checkTally(t, append(l, l[:r.Intn(len(l))]...))
	}
	checkTally(t, edges())
	checkTally(t, slices.Repeat(edges(), 3))
	checkTally(t, []*big.Rat{ratio(0, 1)})
}

// integers are so many from 0 on.
func integers(count int) []*big.Rat {
	var l []*big.Rat
	for i := range count {
		l = append(l, ratio(i, 1))
	}
	return l
}

func TestTallyOfManyShares(t *testing.T) {
	l := integers(400)
	checkTally(t, l)
	slices.Reverse(l)
	checkTally(t, l)
	checkTally(t, append(l[:399:399], ratio(1, 1)))
	checkTally(t, slices.Repeat(integers(1), 400))
	checkTally(t, slices.Repeat(integers(2), 200))
}

func TestTallyErrors(t *testing.T) {
	zero := shares("0")
	for _, x := range []struct {
		name string
		l    []api.Share
		want api.Errno
	}{
		{"none", nil, api.ErrNone},
		{"none, not nil", []api.Share{}, api.ErrNone},
		{"401 equal ones", slices.Repeat(zero, 401), api.ErrLong},
		{"401 invalid ones", make([]api.Share, 401), api.ErrLong},
		{"a million", make([]api.Share, 1000000), api.ErrLong},
	} {
		got, e := spread.Tally(x.l)
		checkError(t, got, e, x.want, "Tally of "+x.name)
	}
	for _, a := range invalid() {
		for _, l := range [][]api.Share{{a}, {a, zero[0]}, {zero[0], a}, append(slices.Repeat(zero, 399), a)} {
			got, e := spread.Tally(l)
			checkError(t, got, e, api.ErrShare, "Tally of an invalid share with", len(l)-1)
		}
	}
}

func checkMix(t *testing.T, l []law, weights []*big.Rat) {
	t.Helper()
	var spreads []api.Spread
	for _, x := range l {
		spreads = append(spreads, x.spread())
	}
	var shares []api.Share
	for _, x := range weights {
		shares = append(shares, of(x))
	}
	got, e := spread.Mix(spreads, shares)
	check(t, got, e, mixed(l, weights), "Mix of", len(l), weights)
}

// weights returns so many random weights, some of them 0, whose sum is 1.
func (r random) weights(count int, bits uint) []*big.Rat {
	var weights []*big.Rat
	for _, x := range r.law(count, 100, bits) {
		weights = append(weights, x.p)
	}
	for len(weights) < count {
		weights = slices.Insert(weights, r.Intn(len(weights)+1), new(big.Rat))
	}
	half := r.Intn(count)
	if k := r.Intn(count); k != half {
		weights[k], weights[half] = plus(weights[k], weights[half]), new(big.Rat)
	}
	return weights
}

func TestMix(t *testing.T) {
	r := random{rand.New(rand.NewSource(3))}
	l := samples(120)
	for i := range 300 {
		var some []law
		for range 1 + r.Intn(6) {
			some = append(some, l[r.Intn(len(l))])
		}
		checkMix(t, some, r.weights(len(some), []uint{3, 40, 200}[i%3]))
	}
	for _, one := range l {
		checkMix(t, []law{one}, []*big.Rat{ratio(1, 1)})
		checkMix(t, []law{one, one}, []*big.Rat{ratio(1, 3), ratio(2, 3)})
		checkMix(t, []law{one, steps(0, 3)}, []*big.Rat{ratio(0, 1), ratio(1, 1)})
	}
}

func TestMixAtTheLimits(t *testing.T) {
	half := []*big.Rat{ratio(1, 2), ratio(1, 2)}
	var many []law
	var even []*big.Rat
	for i := range 40 {
		many = append(many, steps(10*i, 11))
		even = append(even, ratio(1, 40))
	}
	checkMix(t, many, even) // 401 values
	many[39] = steps(390, 10)
	checkMix(t, many, even) // 400 values
	checkMix(t, slices.Repeat([]law{steps(0, 400)}, 40), even)
	checkMix(t, []law{steps(0, 200), steps(200, 200)}, half)
	checkMix(t, []law{steps(0, 200), steps(200, 201)}, half)
	checkMix(t, []law{steps(0, 400), steps(1, 400)}, half)
	checkMix(t, []law{steps(0, 400), steps(0, 400)}, half)
	// A spread that is never taken has no part in the result.
	only := []*big.Rat{ratio(1, 1), ratio(0, 1)}
	checkMix(t, []law{steps(0, 400), steps(400, 400)}, only)
	if got, e := spread.Mix([]api.Spread{masses("0:1"), masses("1:1")}, shares("1 0")); text(got) != "0:1" || e != api.OK {
		t.Errorf("Mix with a weight of 0: %s, error %d", text(got), e)
	}
	// Products of 2^-510 and 1/2 are no shares; here they stand in one sum, or alone.
	one, least := ratio(1, 1), over(big.NewInt(1), power(510))
	a, b := law{{ratio(0, 1), least}, {ratio(1, 1), minus(one, least)}}, law{{ratio(0, 1), minus(one, least)}, {ratio(1, 1), least}}
	checkMix(t, []law{a, b}, half)
	if got, e := spread.Mix([]api.Spread{a.spread(), b.spread()}, shares("1/2 1/2")); text(got) != "0:1/2 1:1/2" || e != api.OK {
		t.Errorf("Mix of what is too long only on the way: %s, error %d", text(got), e)
	}
	got, e := spread.Mix([]api.Spread{a.spread(), a.spread()}, shares("1/2 1/2"))
	check(t, got, e, a, "Mix of a spread with itself")
	got, e = spread.Mix([]api.Spread{a.spread(), masses("1:1")}, shares("1/2 1/2"))
	checkError(t, got, e, api.ErrBig, "Mix with a probability of 2^-511")
	// ErrLong comes before ErrBig, also if what is too long is met first.
	got, e = spread.Mix([]api.Spread{a.spread(), steps(1, 400).spread()}, shares("1/2 1/2"))
	checkError(t, got, e, api.ErrLong, "Mix with a probability of 2^-511, and 401 values")
}

func TestMixErrors(t *testing.T) {
	point, bad := masses("0:1"), masses("0:1/2")
	invalidShare := api.Share{}
	spreads := func(count int) []api.Spread { return slices.Repeat([]api.Spread{point}, count) }
	even := func(count int) []api.Share { return slices.Repeat([]api.Share{of(ratio(1, count))}, count) }
	a, _ := share511()
	for _, x := range []struct {
		name    string
		l       []api.Spread
		weights []api.Share
		want    api.Errno
	}{
		{"41 spreads", spreads(41), even(41), api.ErrLong},
		{"41 spreads, and no weights", spreads(41), nil, api.ErrLong},
		{"41 weights", spreads(40), even(41), api.ErrLong},
		{"41 weights, and no spreads", nil, even(41), api.ErrLong},
		{"41 invalid spreads", make([]api.Spread, 41), even(1), api.ErrLong},
		{"41 invalid weights", spreads(1), make([]api.Share, 41), api.ErrLong},
		{"an invalid spread, and 41 weights", []api.Spread{bad}, even(41), api.ErrLong},
		{"an invalid spread, and an invalid weight", []api.Spread{point, bad}, []api.Share{invalidShare}, api.ErrSpread},
		{"an invalid spread, and no weights", []api.Spread{bad}, nil, api.ErrSpread},
		{"an invalid spread as the last of 40", append(spreads(39), bad), even(40), api.ErrSpread},
		{"an invalid spread with the weight 0", []api.Spread{point, bad}, shares("1 0"), api.ErrSpread},
		{"an invalid weight, and no spreads", nil, []api.Share{invalidShare}, api.ErrShare},
		{"an invalid weight behind a negative one", spreads(2), append(shares("-1"), invalidShare), api.ErrShare},
		{"an invalid weight in front", spreads(2), append([]api.Share{invalidShare}, shares("1")...), api.ErrShare},
		{"an invalid weight as one too many", spreads(1), append(shares("1"), invalidShare), api.ErrShare},
		{"an invalid weight as the last of 40", spreads(40), append(even(40)[1:], invalidShare), api.ErrShare},
		{"nothing", nil, nil, api.ErrArg},
		{"nothing, not nil", []api.Spread{}, []api.Share{}, api.ErrArg},
		{"no weights", spreads(1), nil, api.ErrArg},
		{"no spreads", nil, even(1), api.ErrArg},
		{"a weight too many", spreads(1), even(2), api.ErrArg},
		{"a weight of 0 too many", spreads(1), shares("1 0"), api.ErrArg},
		{"a weight too few", spreads(2), even(1), api.ErrArg},
		{"40 spreads, and 39 weights", spreads(40), even(39), api.ErrArg},
		{"a negative weight", spreads(2), shares("-1/2 3/2"), api.ErrArg},
		{"a negative weight at the end", spreads(3), shares("1 1 -1"), api.ErrArg},
		{"a weight of -1", spreads(1), shares("-1"), api.ErrArg},
		{"a sum below 1", spreads(2), shares("1/2 1/3"), api.ErrArg},
		{"a sum above 1", spreads(2), shares("1/2 2/3"), api.ErrArg},
		{"a sum of 0", spreads(2), shares("0 0"), api.ErrArg},
		{"a sum of 2", spreads(2), shares("1 1"), api.ErrArg},
		{"a sum that is nearly 1", spreads(1), []api.Share{a}, api.ErrArg},
		{"a sum that is nearly 1, of two", spreads(2), append(shares("0"), a), api.ErrArg},
		{"a sum that is no share", spreads(2), append(shares("1/3"), a), api.ErrArg},
		{"a sum below 1, and a result of 401 values", []api.Spread{steps(0, 400).spread(), masses("-1:1")}, shares("1/2 1/3"), api.ErrArg},
	} {
		got, e := spread.Mix(x.l, x.weights)
		checkError(t, got, e, x.want, "Mix of "+x.name)
	}
}

// share511 returns the share that is less than 1 by 2^-510, and that difference.
func share511() (a, rest api.Share) {
	least := over(big.NewInt(1), power(510))
	return of(minus(ratio(1, 1), least)), of(least)
}

// P5.3

func checkSum(t *testing.T, a, b law) api.Errno {
	t.Helper()
	got, e := spread.Sum(a.spread(), b.spread())
	check(t, got, e, summed(a, b), "Sum of", len(a), len(b), brief(text(a.spread())), brief(text(b.spread())))
	return e
}

func TestSum(t *testing.T) {
	errors := map[api.Errno]int{}
	l := samples(42)
	for _, a := range l {
		for _, b := range l {
			errors[checkSum(t, a, b)]++
		}
	}
	if errors[api.OK] < 200 || errors[api.ErrBig] < 200 {
		t.Errorf("the test is wrong: the sums of the samples have the errors %v", errors)
	}
}

func TestSumAtTheLimits(t *testing.T) {
	one, two := law{{ratio(1, 2), ratio(1, 1)}}, steps(0, 2)
	checkSum(t, one, one)
	checkSum(t, steps(0, 400), one)
	checkSum(t, one, steps(0, 400))
	checkSum(t, steps(0, 399), two)           // 400 values
	checkSum(t, steps(0, 400), two)           // 401 values
	checkSum(t, steps(0, 200), steps(5, 201)) // 400 values of 40200 sums
	checkSum(t, steps(0, 201), steps(5, 201)) // 401 values
	checkSum(t, steps(0, 400), steps(0, 400))
	var apart law
	for i := range 20 {
		apart = append(apart, point{ratio(20*i, 1), ratio(1, 20)})
	}
	checkSum(t, apart, steps(0, 20)) // 400 values, all different
	checkSum(t, steps(0, 21), apart) // 401 values
	// No two of 160000 sums are equal: powers of two.
	var a, b law
	for i := range 400 {
		a = append(a, point{over(power(uint(i)), big.NewInt(1)), ratio(1, 400)})
		b = append(b, point{over(power(uint(i)), big.NewInt(3)), ratio(1, 400)})
	}
	got, e := spread.Sum(a.spread(), b.spread())
	checkError(t, got, e, api.ErrLong, "Sum with 160000 values")
}

func TestSumOfLargeParts(t *testing.T) {
	one := big.NewInt(1)
	most, least := above(power(511), -1), new(big.Int).Neg(power(511))
	whole := func(n *big.Int) law { return law{{over(n, one), ratio(1, 1)}} }
	pair := func(x, y, p *big.Rat) law { return law{{x, p}, {y, minus(ratio(1, 1), p)}} }
	for _, x := range []struct {
		name string
		a, b law
		want api.Errno
	}{
		{"2^511 - 2 and 1", whole(above(most, -1)), whole(one), api.OK},
		{"2^511 - 1 and 1", whole(most), whole(one), api.ErrBig},
		{"-2^511 and -1", whole(least), whole(big.NewInt(-1)), api.ErrBig},
		{"-2^511 and 2^511 - 1", whole(least), whole(most), api.OK},
		{"a last value that is too large", pair(ratio(0, 1), over(most, one), ratio(1, 2)), whole(one), api.ErrBig},
		{"a first value that is too small", pair(over(least, one), ratio(0, 1), ratio(1, 2)), whole(big.NewInt(-1)), api.ErrBig},
		{"denominators that are too large", law{{over(one, power(300)), ratio(1, 1)}}, law{{over(one, above(power(300), 1)), ratio(1, 1)}}, api.ErrBig},
		{"denominators with a common divisor",
			law{{over(one, new(big.Int).Mul(power(250), above(power(250), -1))), ratio(1, 1)}},
			law{{over(one, new(big.Int).Mul(power(250), above(power(250), 1))), ratio(1, 1)}}, api.OK},
		{"a probability of 2^-511", pair(ratio(0, 1), ratio(1, 1), over(one, power(510))), pair(ratio(0, 1), ratio(1, 1), ratio(1, 2)), api.ErrBig},
		{"a probability of 2^-510", pair(ratio(0, 1), ratio(1, 1), over(one, power(509))), pair(ratio(0, 1), ratio(1, 1), ratio(1, 2)), api.OK},
		{"401 values, the first ones too small", summed(whole(least), steps(0, 201)), summed(whole(least), steps(0, 201)), api.ErrLong},
		{"400 values, the first ones too small", summed(whole(least), steps(0, 200)), summed(whole(least), steps(0, 201)), api.ErrBig},
	} {
		got, e := spread.Sum(x.a.spread(), x.b.spread())
		check(t, got, e, summed(x.a, x.b), "Sum of "+x.name)
		if e != x.want {
			t.Errorf("Sum of %s: error %d; want %d", x.name, e, x.want)
		}
	}
}

// Four of the products of probabilities are no shares, but what they have in common with others of the same value makes
// all sums shares.
func TestSumThatIsLongOnlyOnTheWay(t *testing.T) {
	odd, quarter := above(power(400), 1), ratio(1, 4)
	a, b := over(big.NewInt(1), odd), over(odd, power(403))
	first := law{{ratio(0, 1), plus(ratio(1, 2), a)}, {ratio(1, 1), minus(ratio(1, 2), a)}}
	second := law{{ratio(0, 1), quarter}, {ratio(1, 1), plus(quarter, b)}, {ratio(2, 1), minus(quarter, b)}, {ratio(3, 1), quarter}}
	for _, x := range first {
		for _, y := range second[1:3] {
			if _, e := shareOf(times(x.p, y.p)); e != api.ErrBig {
				t.Fatalf("the test is wrong: a product is a share")
			}
		}
	}
	checkSum(t, first, second)
	checkSum(t, second, first)
	if got, e := spread.Sum(first.spread(), second.spread()); len(got) != 5 || e != api.OK {
		t.Errorf("Sum: %s, error %d", brief(text(got)), e)
	}
}

// changes are what Shift and Scale do to each value.
func changes() map[string]struct {
	f    func(api.Spread, api.Share) (api.Spread, api.Errno)
	want func(x, y *big.Rat) *big.Rat
} {
	return map[string]struct {
		f    func(api.Spread, api.Share) (api.Spread, api.Errno)
		want func(x, y *big.Rat) *big.Rat
	}{"Shift": {spread.Shift, plus}, "Scale": {spread.Scale, times}}
}

func checkChanges(t *testing.T, l law, x *big.Rat) {
	t.Helper()
	for call, change := range changes() {
		var want law
		for _, y := range l {
			want = append(want, point{change.want(y.at, x), y.p})
		}
		got, e := change.f(l.spread(), of(x))
		check(t, got, e, want, call, brief(text(l.spread())), x)
	}
}

func TestShiftAndScale(t *testing.T) {
	r := random{rand.New(rand.NewSource(4))}
	for _, l := range samples(120) {
		for _, x := range []*big.Rat{ratio(0, 1), ratio(1, 1), ratio(-1, 1), ratio(-3, 2), r.rational(9), r.rational(255), r.rational(510)} {
			checkChanges(t, l, x)
		}
		for _, x := range edges() {
			checkChanges(t, l, x)
		}
	}
	for _, x := range []*big.Rat{ratio(0, 1), ratio(-1, 1), ratio(7, 3)} {
		checkChanges(t, steps(-200, 400), x)
		checkChanges(t, law{{ratio(5, 1), ratio(1, 1)}}, x)
	}
}

func TestShiftAndScaleAtTheLimits(t *testing.T) {
	one := big.NewInt(1)
	whole := func(n *big.Int) *big.Rat { return over(n, one) }
	most, least := whole(above(power(511), -1)), whole(new(big.Int).Neg(power(511)))
	half := func(x, y *big.Rat) law { return law{{x, ratio(1, 2)}, {y, ratio(1, 2)}} }
	for _, x := range []struct {
		name string
		f    func(api.Spread, api.Share) (api.Spread, api.Errno)
		l    law
		a    *big.Rat
		want law
		e    api.Errno
	}{
		{"2^511 - 1 is shifted by 1", spread.Shift, half(ratio(0, 1), most), ratio(1, 1), nil, api.ErrBig},
		{"-2^511 is shifted by -1", spread.Shift, half(least, ratio(0, 1)), ratio(-1, 1), nil, api.ErrBig},
		{"-2^511 is shifted by 2^511 - 1", spread.Shift, half(least, ratio(0, 1)), most, half(ratio(-1, 1), most), api.OK},
		{"-2^511 is turned", spread.Scale, half(least, ratio(1, 1)), ratio(-1, 1), nil, api.ErrBig},
		{"2^511 - 1 is turned", spread.Scale, half(ratio(1, 1), most), ratio(-1, 1), half(minus(ratio(0, 1), most), ratio(-1, 1)), api.OK},
		{"2^510 is doubled", spread.Scale, half(ratio(1, 1), whole(power(510))), ratio(2, 1), nil, api.ErrBig},
		{"2^510 is doubled and turned", spread.Scale, half(ratio(1, 1), whole(power(510))), ratio(-2, 1), half(least, ratio(-2, 1)), api.OK},
		{"-2^511 is halved", spread.Scale, half(least, ratio(1, 1)), ratio(1, 2), half(whole(new(big.Int).Neg(power(510))), ratio(1, 2)), api.OK},
		{"2^-510 is halved", spread.Scale, half(ratio(0, 1), over(one, power(510))), ratio(1, 2), nil, api.ErrBig},
		{"the greatest numbers are cancelled", spread.Scale, half(ratio(0, 1), over(above(power(511), -2), above(power(511), -1))),
			over(above(power(511), -1), above(power(511), -2)), half(ratio(0, 1), ratio(1, 1)), api.OK},
		{"-2^511 times 0", spread.Scale, half(least, most), ratio(0, 1), law{{ratio(0, 1), ratio(1, 1)}}, api.OK},
		{"a denominator that is long only on the way", spread.Shift, law{{over(one, new(big.Int).Mul(power(250), above(power(250), -1))), ratio(1, 1)}},
			over(one, new(big.Int).Mul(power(250), above(power(250), 1))), law{{over(big.NewInt(2), above(power(500), -1)), ratio(1, 1)}}, api.OK},
	} {
		got, e := x.f(x.l.spread(), of(x.a))
		if x.e != api.OK {
			checkError(t, got, e, x.e, x.name)
			continue
		}
		check(t, got, e, x.want, x.name)
	}
	// All probabilities come together, and their sums are long on the way.
	for _, l := range []law{chained(400, 250), chained(400, 250).turned(), steps(0, 400)} {
		if got, e := spread.Scale(l.spread(), of(ratio(0, 1))); text(got) != "0:1" || e != api.OK {
			t.Errorf("Scale by 0: %s, error %d", brief(text(got)), e)
		}
	}
}
