package spread_test

import (
	"math/big"
	"math/rand"
	"slices"
	"testing"

	"wardmote/api"
	"wardmote/share"
	"wardmote/spread"
)

// P5.4

func checkMoments(t *testing.T, l law) {
	t.Helper()
	s := l.spread()
	got, e := spread.Mean(s)
	checkShare(t, got, e, l.mean(same), "Mean of", brief(text(s)))
	got, e = spread.Variance(s)
	checkShare(t, got, e, l.variance(), "Variance of", brief(text(s)))
}

func TestMeanAndVariance(t *testing.T) {
	for _, l := range samples(250) {
		checkMoments(t, l)
	}
	for _, l := range []law{steps(-200, 400), steps(0, 400), steps(3, 1), chained(2, 400), chained(60, 200), chained(60, 200).turned()} {
		checkMoments(t, l)
	}
}

func TestMeanAndVarianceAtTheLimits(t *testing.T) {
	one := big.NewInt(1)
	whole := func(n *big.Int) *big.Rat { return over(n, one) }
	half := func(x, y *big.Rat) law { return law{{x, ratio(1, 2)}, {y, ratio(1, 2)}} }
	most, least := above(power(511), -1), new(big.Int).Neg(power(511))
	for _, x := range []struct {
		name           string
		l              law
		mean, variance api.Errno
	}{
		{"the point 2^511 - 1", law{{whole(most), ratio(1, 1)}}, api.OK, api.OK},
		{"the point -2^511", law{{whole(least), ratio(1, 1)}}, api.OK, api.OK},
		{"the point 1 / (2^511 - 1)", law{{over(one, most), ratio(1, 1)}}, api.OK, api.OK},
		{"2^511 - 2 and 2^511 - 1", half(whole(above(most, -1)), whole(most)), api.ErrBig, api.OK}, // 1/4, and a mean that is too long
		{"-2^511 and 2^511 - 1", half(whole(least), whole(most)), api.OK, api.ErrBig},
		{"-2^511 and -2^511 + 2", half(whole(least), whole(above(least, 2))), api.OK, api.OK},
		{"0 and 2^255", half(ratio(0, 1), whole(power(255))), api.OK, api.OK},
		{"0 and 2^256", half(ratio(0, 1), whole(power(256))), api.OK, api.OK}, // 2^510
		{"0 and 2^257", half(ratio(0, 1), whole(power(257))), api.OK, api.ErrBig},
		{"0 and 2^-254", half(ratio(0, 1), over(one, power(254))), api.OK, api.OK}, // 2^-510
		{"0 and 2^-255", half(ratio(0, 1), over(one, power(255))), api.OK, api.ErrBig},
		{"0 and 2^-510", half(ratio(0, 1), over(one, power(510))), api.ErrBig, api.ErrBig},
		{"a probability of 2^-510", law{{ratio(0, 1), over(one, power(510))}, {ratio(1, 1), over(above(power(510), -1), power(510))}}, api.OK, api.ErrBig},
	} {
		checkMoments(t, x.l)
		if _, e := spread.Mean(x.l.spread()); e != x.mean {
			t.Errorf("Mean of %s: error %d; want %d", x.name, e, x.mean)
		}
		if _, e := spread.Variance(x.l.spread()); e != x.variance {
			t.Errorf("Variance of %s: error %d; want %d", x.name, e, x.variance)
		}
	}
}

// The parts have denominators without a common divisor, whose product is long, but the mean is 0 by symmetry.
func TestMeanThatIsLongOnlyOnTheWay(t *testing.T) {
	var l law
	for i := range 20 {
		x := over(big.NewInt(1), above(power(300), int64(i)))
		l = append(l, point{x, ratio(1, 40)}, point{minus(ratio(0, 1), x), ratio(1, 40)})
	}
	checkMoments(t, l.gathered())
	if mean, e := spread.Mean(l.gathered().spread()); mean != of(ratio(0, 1)) || e != api.OK {
		t.Errorf("Mean: %v, error %d; want 0", mean, e)
	}
}

// P5.5

func checkBelow(t *testing.T, l law, a *big.Rat) {
	t.Helper()
	want, f := shareOf(l.chance(-1, a))
	beside, _ := shareOf(l.chance(0, a))
	if f != api.OK {
		beside = api.Share{}
	}
	if below, equal, e := spread.Below(l.spread(), of(a)); below != want || equal != beside || e != f {
		t.Errorf("Below(%s, %v): %v, %v, error %d; want %v, %v, error %d", brief(text(l.spread())), a, below, equal, e, want, beside, f)
	}
}

func TestBelow(t *testing.T) {
	r := random{rand.New(rand.NewSource(6))}
	for _, l := range samples(84) {
		for _, x := range l {
			checkBelow(t, l, x.at)
		}
		for _, x := range append(edges(), ratio(0, 1), r.rational(2), r.rational(250), r.rational(509)) {
			checkBelow(t, l, x)
		}
	}
	for _, l := range []law{steps(0, 400), steps(7, 1)} {
		for _, x := range []*big.Rat{ratio(-1, 1), ratio(0, 1), ratio(1, 2), ratio(7, 1), ratio(13, 2), ratio(15, 2), ratio(398, 1), ratio(399, 1), ratio(400, 1)} {
			checkBelow(t, l, x)
		}
	}
}

func TestBelowThatIsLong(t *testing.T) {
	l, turned := chained(12, 250), chained(12, 250).turned()
	for i := range 13 {
		for _, half := range []*big.Rat{ratio(0, 1), ratio(1, 2)} {
			checkBelow(t, l, minus(ratio(i, 1), half))
			checkBelow(t, turned, minus(ratio(i, 1), half))
		}
	}
	// Of the first two probabilities each is a share, but not their sum; that of all is one again.
	at := shares("1 2 12")
	if below, equal, e := spread.Below(turned.spread(), at[0]); below != of(turned[0].p) || equal != of(turned[1].p) || e != api.OK {
		t.Errorf("Below(.., 1): %v, %v, error %d", below, equal, e)
	}
	if below, equal, e := spread.Below(turned.spread(), at[1]); below != (api.Share{}) || equal != (api.Share{}) || e != api.ErrBig {
		t.Errorf("Below(.., 2): %v, %v, error %d; want ErrBig", below, equal, e)
	}
	if below, equal, e := spread.Below(turned.spread(), at[2]); below != of(ratio(1, 1)) || equal != of(ratio(0, 1)) || e != api.OK {
		t.Errorf("Below(.., 12): %v, %v, error %d; want 1, 0", below, equal, e)
	}
}

func checkQuantile(t *testing.T, l law, p *big.Rat) {
	t.Helper()
	got, e := spread.Quantile(l.spread(), of(p))
	checkShare(t, got, e, l.quantile(p), "Quantile of", brief(text(l.spread())), p)
}

func TestQuantile(t *testing.T) {
	one, least := ratio(1, 1), over(big.NewInt(1), above(power(511), -1))
	for _, l := range append(samples(84), chained(12, 250), chained(12, 250).turned()) {
		upTo := new(big.Rat)
		for _, x := range l {
			upTo = plus(upTo, x.p)
			for _, p := range []*big.Rat{upTo, plus(upTo, ratio(1, 1000)), minus(upTo, ratio(1, 1000)), x.p} {
				// Such a sum need not be a share.
				if _, e := shareOf(p); e == api.OK && p.Sign() > 0 && p.Cmp(one) <= 0 {
					checkQuantile(t, l, p)
				}
			}
		}
		for _, p := range []*big.Rat{one, ratio(1, 2), ratio(1, 3), ratio(2, 3), least, minus(one, least)} {
			checkQuantile(t, l, p)
		}
	}
	for i := 1; i <= 400; i += 57 {
		checkQuantile(t, steps(0, 400), ratio(i, 400))
		checkQuantile(t, steps(0, 400), minus(ratio(i, 400), ratio(1, 401)))
	}
	// Beside the limit between two values.
	d := masses("0:1/2 1:1/2")
	half, tiny := ratio(1, 2), over(big.NewInt(1), power(509))
	for _, x := range []struct {
		p    *big.Rat
		want string
	}{{minus(half, tiny), "0"}, {half, "0"}, {plus(half, tiny), "1"}, {one, "1"}} {
		got, e := spread.Quantile(d, of(x.p))
		checkShare(t, got, e, number(x.want), "Quantile of D", x.p)
	}
}

func TestQuantileErrors(t *testing.T) {
	most := above(power(511), -1)
	for _, p := range append(shares("0 -1 -1/2 2 3/2"), of(over(most, above(most, -1))), of(over(big.NewInt(-1), most)), of(over(most, big.NewInt(1)))) {
		for _, s := range []api.Spread{masses("0:1"), masses("0:1/2 1:1/2"), steps(0, 400).spread()} {
			got, e := spread.Quantile(s, p)
			checkShareError(t, got, e, api.ErrArg, "Quantile", ratOf(p))
		}
		// An invalid spread comes first.
		got, e := spread.Quantile(masses("0:1/2"), p)
		checkShareError(t, got, e, api.ErrSpread, "Quantile of an invalid spread", ratOf(p))
	}
}

func checkDistance(t *testing.T, a, b law) api.Errno {
	t.Helper()
	got, e := spread.Distance(a.spread(), b.spread())
	checkShare(t, got, e, distance(a, b), "Distance of", brief(text(a.spread())), brief(text(b.spread())))
	return e
}

func TestDistance(t *testing.T) {
	errors := map[api.Errno]int{}
	l := samples(42)
	for _, a := range l {
		for _, b := range l {
			errors[checkDistance(t, a, b)]++
		}
	}
	if errors[api.OK] < 200 || errors[api.ErrBig] == 0 {
		t.Errorf("the test is wrong: the distances of the samples have the errors %v", errors)
	}
	for _, x := range []struct {
		a, b law
		want *big.Rat
	}{
		{steps(0, 400), steps(0, 400), ratio(0, 1)},
		{steps(0, 400), steps(400, 400), ratio(1, 1)},
		{steps(0, 400), steps(1, 400), ratio(1, 400)},
		{steps(0, 400), steps(0, 200), ratio(1, 2)},
		{steps(7, 1), steps(8, 1), ratio(1, 1)},
		{steps(7, 1), steps(7, 1), ratio(0, 1)},
		{steps(0, 10), steps(0, 9), ratio(1, 10)},
		// All sums of two of these are too long on the way.
		{chained(200, 250).turned(), chained(200, 250).turned(), ratio(0, 1)},
	} {
		got, e := spread.Distance(x.a.spread(), x.b.spread())
		checkShare(t, got, e, x.want, "Distance of", len(x.a), len(x.b))
	}
}

func TestDistanceThatIsLongOnlyOnTheWay(t *testing.T) {
	// No value is common: all parts are added up, and 1 is left.
	a, b := chained(80, 250).turned(), chained(70, 251).turned()
	for i := range b {
		b[i].at = plus(b[i].at, ratio(1, 2))
	}
	got, e := spread.Distance(a.spread(), b.spread())
	checkShare(t, got, e, ratio(1, 1), "Distance of spreads without a common value")
	// The differences are no shares, their sum is one: 1 / n and 1 / (n + 1), and the like with other signs.
	n := power(300)
	x, y := over(big.NewInt(1), n), over(big.NewInt(1), above(n, 1))
	half := ratio(1, 2)
	first := law{{ratio(0, 1), x}, {ratio(1, 1), half}, {ratio(2, 1), minus(half, x)}}
	second := law{{ratio(0, 1), y}, {ratio(1, 1), minus(half, y)}, {ratio(2, 1), half}}
	if _, f := shareOf(minus(x, y)); f != api.ErrBig {
		t.Fatalf("the test is wrong: the difference is a share")
	}
	if e := checkDistance(t, first, second); e != api.OK {
		t.Errorf("Distance: error %d", e)
	}
	got, e = spread.Distance(law{{ratio(0, 1), x}, {ratio(1, 1), minus(ratio(1, 1), x)}}.spread(), law{{ratio(0, 1), y}, {ratio(1, 1), minus(ratio(1, 1), y)}}.spread())
	checkShareError(t, got, e, api.ErrBig, "Distance of 2^-300 and 1 / (2^300 + 1)")
}

// P5.6

// added returns the sum of two shares.
func added(t *testing.T, a, b api.Share) api.Share {
	t.Helper()
	sum, e := share.Add(a, b)
	if e != api.OK {
		t.Fatalf("the test is wrong: the sum of %v and %v has the error %d", a, b, e)
	}
	return sum
}

// mustShare ends the test if there is an error.
func mustShare(t *testing.T) func(api.Share, api.Errno) api.Share {
	t.Helper()
	return func(a api.Share, e api.Errno) api.Share {
		t.Helper()
		if e != api.OK {
			t.Fatalf("error %d", e)
		}
		return a
	}
}

func mustSpread(t *testing.T) func(api.Spread, api.Errno) api.Spread {
	t.Helper()
	return func(s api.Spread, e api.Errno) api.Spread {
		t.Helper()
		if e != api.OK {
			t.Fatalf("error %d", e)
		}
		return s
	}
}

// small are spreads for which all results are shares.
func small(count int) []api.Spread {
	r := random{rand.New(rand.NewSource(7))}
	var l []api.Spread
	for range count {
		l = append(l, r.law(1+r.Intn(5), 3, 4).spread())
	}
	return append(l, masses("0:1"), masses("0:1/2 1:1/2"), masses("-7/2:1/3 0:2/3"))
}

func TestMeansAndVariancesAddUp(t *testing.T) {
	number, spreadOf := mustShare(t), mustSpread(t)
	l := small(30)
	for _, a := range l {
		for _, b := range l {
			sum := spreadOf(spread.Sum(a, b))
			if mean := number(spread.Mean(sum)); mean != added(t, number(spread.Mean(a)), number(spread.Mean(b))) {
				t.Errorf("the mean of the sum of %s and %s is %v", text(a), text(b), ratOf(mean))
			}
			if variance := number(spread.Variance(sum)); variance != added(t, number(spread.Variance(a)), number(spread.Variance(b))) {
				t.Errorf("the variance of the sum of %s and %s is %v", text(a), text(b), ratOf(variance))
			}
			if !spread.Same(sum, spreadOf(spread.Sum(b, a))) {
				t.Errorf("the sums of %s and %s are not the same", text(a), text(b))
			}
			mean := plus(times(ratio(1, 3), ratOf(number(spread.Mean(a)))), times(ratio(2, 3), ratOf(number(spread.Mean(b)))))
			if got := number(spread.Mean(spreadOf(spread.Mix([]api.Spread{a, b}, shares("1/3 2/3"))))); got != of(mean) {
				t.Errorf("the mean of the mixture of %s and %s is %v; want %v", text(a), text(b), ratOf(got), mean)
			}
		}
	}
}

func TestDistancesAreOnes(t *testing.T) {
	l := small(14)
	l = append(l, slices.Clone(l[0]))
	between := func(a, b api.Spread) *big.Rat { return ratOf(mustShare(t)(spread.Distance(a, b))) }
	for _, a := range l {
		for _, b := range l {
			direct := between(a, b)
			if direct.Sign() < 0 || direct.Cmp(ratio(1, 1)) > 0 || direct.Sign() == 0 != spread.Same(a, b) || direct.Cmp(between(b, a)) != 0 {
				t.Errorf("the distance of %s and %s is %v", text(a), text(b), direct)
			}
			for _, c := range l {
				if direct.Cmp(plus(between(a, c), between(c, b))) > 0 {
					t.Errorf("the distance of %s and %s is %v, more than by way of %s", text(a), text(b), direct, text(c))
				}
			}
		}
	}
}

func TestQuantilesRise(t *testing.T) {
	for _, s := range append(small(40), steps(0, 400).spread()) {
		last := s[0].At
		for i := 1; i <= 60; i++ {
			next, e := spread.Quantile(s, of(ratio(i, 60)))
			if order, _ := share.Cmp(last, next); order > 0 || e != api.OK {
				t.Errorf("the quantile of %s with %d / 60 is %v, error %d, behind %v", brief(text(s)), i, next, e, last)
			}
			below, equal, _ := spread.Below(s, next)
			p := ratio(i, 60)
			if ratOf(below).Cmp(p) >= 0 || ratOf(added(t, below, equal)).Cmp(p) < 0 {
				t.Errorf("the quantile of %s with %v is %v, below which is %v", brief(text(s)), p, ratOf(next), ratOf(below))
			}
			last = next
		}
		if last != s[len(s)-1].At {
			t.Errorf("the quantile of %s with 1 is %v", brief(text(s)), ratOf(last))
		}
	}
}
