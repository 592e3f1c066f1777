package spread_test

import (
	"math/big"
	"slices"
	"testing"

	"wardmote/api"
	"wardmote/spread"
)

// The chapter's examples. D is the spread of 0 and 1 with the probability 1/2 each.
func TestExamples(t *testing.T) {
	d, one, half := masses("0:1/2 1:1/2"), masses("1:1"), of(ratio(1, 2))
	for _, x := range []struct {
		call string
		f    func() (api.Spread, api.Errno)
		want string
		e    api.Errno
	}{
		{"Tally(3, 1, 3)", func() (api.Spread, api.Errno) { return spread.Tally(shares("3 1 3")) }, "1:1/3 3:2/3", api.OK},
		{"Tally of none", func() (api.Spread, api.Errno) { return spread.Tally(nil) }, "", api.ErrNone},
		{"Sum(D, D)", func() (api.Spread, api.Errno) { return spread.Sum(d, d) }, "0:1/4 1:1/2 2:1/4", api.OK},
		{"Scale(D, -2)", func() (api.Spread, api.Errno) { return spread.Scale(d, shares("-2")[0]) }, "-2:1/2 0:1/2", api.OK},
		{"Scale(D, 0)", func() (api.Spread, api.Errno) { return spread.Scale(d, shares("0")[0]) }, "0:1", api.OK},
		{"Shift(D, 1/2)", func() (api.Spread, api.Errno) { return spread.Shift(d, half) }, "1/2:1/2 3/2:1/2", api.OK},
		{"Mix(D, the point 1; 1/3, 2/3)", func() (api.Spread, api.Errno) {
			return spread.Mix([]api.Spread{d, one}, shares("1/3 2/3"))
		}, "0:1/6 1:5/6", api.OK},
	} {
		if got, e := x.f(); text(got) != x.want || e != x.e {
			t.Errorf("%s: %s, error %d; want %s, error %d", x.call, text(got), e, x.want, x.e)
		}
	}
	for _, x := range []struct {
		call string
		f    func() (api.Share, api.Errno)
		want string
	}{
		{"Mean(D)", func() (api.Share, api.Errno) { return spread.Mean(d) }, "1/2"},
		{"Variance(D)", func() (api.Share, api.Errno) { return spread.Variance(d) }, "1/4"},
		{"Quantile(D, 1/2)", func() (api.Share, api.Errno) { return spread.Quantile(d, half) }, "0"},
		{"Quantile(D, 2/3)", func() (api.Share, api.Errno) { return spread.Quantile(d, shares("2/3")[0]) }, "1"},
		{"Distance(D, the point 1)", func() (api.Share, api.Errno) { return spread.Distance(d, one) }, "1/2"},
	} {
		got, e := x.f()
		checkShare(t, got, e, number(x.want), x.call)
	}
	if below, equal, e := spread.Below(d, shares("1")[0]); below != half || equal != half || e != api.OK {
		t.Errorf("Below(D, 1): %v, %v, error %d", below, equal, e)
	}
	got, e := spread.Quantile(d, shares("0")[0])
	checkShareError(t, got, e, api.ErrArg, "Quantile(D, 0)")
	if e := spread.Check(nil); e != api.ErrSpread {
		t.Errorf("Check of no masses: error %d", e)
	}
}

// P5.1

func TestCheck(t *testing.T) {
	few := samples(200)
	half := ratio(1, 2)
	few = append(few,
		steps(0, 1), steps(-7, 1), steps(-200, 400), steps(0, 399),
		chained(2, 400), chained(400, 250), chained(400, 250).turned(),
		law{{over(above(power(510), 1), power(510)), half}, {over(power(510), above(power(510), -1)), half}},
		law{{minus(ratio(0, 1), over(power(511), big.NewInt(1))), half}, {over(above(power(511), -1), big.NewInt(1)), half}},
		law{{ratio(0, 1), over(above(power(510), -1), power(510))}, {ratio(1, 1), over(big.NewInt(1), power(510))}},
	)
	for _, l := range few {
		s := l.spread()
		if e := spread.Check(s); e != api.OK {
			t.Errorf("Check(%s): error %d", brief(text(s)), e)
		}
	}
	for name, s := range invalidSpreads() {
		if e := spread.Check(s); e != api.ErrSpread {
			t.Errorf("Check of %s: error %d; want ErrSpread", name, e)
		}
	}
}

func TestSame(t *testing.T) {
	l := []api.Spread{
		masses("0:1"), masses("1:1"), masses("0:1/2 1:1/2"), masses("0:1/2 2:1/2"), masses("1:1/2 2:1/2"), masses("0:1/3 1:2/3"), masses("0:2/3 1:1/3"),
		masses("0:1/3 1:1/3 2:1/3"), masses("0:1/2 1:1/4 2:1/4"), steps(0, 400).spread(),
		nil, masses("1:1/2 0:1/2"), masses("0:1/2"), masses("0:0"), {{}}, steps(0, 401).spread(), // which are not valid
	}
	for i, a := range l {
		for k, b := range l {
			if got := spread.Same(a, slices.Clone(b)); got != (i == k) {
				t.Errorf("Same(%s, %s): %v", brief(text(a)), brief(text(b)), got)
			}
		}
	}
	if !spread.Same(nil, api.Spread{}) || !spread.Same(api.Spread{}, nil) {
		t.Errorf("Same: an empty list is not the same as nil")
	}
	a := steps(0, 400).spread()
	for i := range a {
		for name, change := range map[string]func(m *api.Mass){
			"the value":       func(m *api.Mass) { m.At = of(ratio(1001, 2)) },
			"the probability": func(m *api.Mass) { m.P = of(ratio(1, 401)) },
		} {
			b := slices.Clone(a)
			change(&b[i])
			if spread.Same(a, b) || spread.Same(b, a) {
				t.Errorf("Same takes no account of %s at %d", name, i)
			}
		}
	}
}

func TestPoint(t *testing.T) {
	for _, x := range append(edges(), ratio(0, 1), ratio(1, 1), ratio(-3, 2)) {
		got, e := spread.Point(of(x))
		check(t, got, e, law{{x, ratio(1, 1)}}, "Point", x)
		if len(got) != 1 {
			t.Errorf("Point(%v): %s", x, text(got))
		}
	}
	for _, a := range invalid() {
		got, e := spread.Point(a)
		checkError(t, got, e, api.ErrShare, "Point", a)
	}
}

// Invalid arguments of all functions.

// ofOne are the functions of one spread, for which it is enough to know whether the result is the zero value.
func ofOne(s api.Spread) map[string]func() (bool, api.Errno) {
	one := of(ratio(1, 1))
	return map[string]func() (bool, api.Errno){
		"Shift":    func() (bool, api.Errno) { return noSpread(spread.Shift(s, one)) },
		"Scale":    func() (bool, api.Errno) { return noSpread(spread.Scale(s, one)) },
		"Mean":     func() (bool, api.Errno) { return noShare(spread.Mean(s)) },
		"Variance": func() (bool, api.Errno) { return noShare(spread.Variance(s)) },
		"Below":    func() (bool, api.Errno) { return noShares(spread.Below(s, one)) },
		"Quantile": func() (bool, api.Errno) { return noShare(spread.Quantile(s, one)) },
		"Mix alone": func() (bool, api.Errno) {
			return noSpread(spread.Mix([]api.Spread{s}, []api.Share{one}))
		},
	}
}

// ofTwo are the functions of two spreads.
func ofTwo(a, b api.Spread) map[string]func() (bool, api.Errno) {
	return map[string]func() (bool, api.Errno){
		"Sum":      func() (bool, api.Errno) { return noSpread(spread.Sum(a, b)) },
		"Distance": func() (bool, api.Errno) { return noShare(spread.Distance(a, b)) },
		"Mix": func() (bool, api.Errno) {
			return noSpread(spread.Mix([]api.Spread{a, b}, shares("1/2 1/2")))
		},
		"Mix with a weight of 0": func() (bool, api.Errno) {
			return noSpread(spread.Mix([]api.Spread{a, b}, shares("0 1")))
		},
	}
}

// withShare are the functions of a spread and a share.
func withShare(s api.Spread, a api.Share) map[string]func() (bool, api.Errno) {
	return map[string]func() (bool, api.Errno){
		"Shift":    func() (bool, api.Errno) { return noSpread(spread.Shift(s, a)) },
		"Scale":    func() (bool, api.Errno) { return noSpread(spread.Scale(s, a)) },
		"Below":    func() (bool, api.Errno) { return noShares(spread.Below(s, a)) },
		"Quantile": func() (bool, api.Errno) { return noShare(spread.Quantile(s, a)) },
		"Mix":      func() (bool, api.Errno) { return noSpread(spread.Mix([]api.Spread{s}, []api.Share{a})) },
		"Mix, behind another weight": func() (bool, api.Errno) {
			return noSpread(spread.Mix([]api.Spread{s}, append(shares("-1"), a)))
		},
	}
}

func noSpread(s api.Spread, e api.Errno) (bool, api.Errno) { return len(s) == 0, e }
func noShare(a api.Share, e api.Errno) (bool, api.Errno)   { return a == api.Share{}, e }
func noShares(a, b api.Share, e api.Errno) (bool, api.Errno) {
	return a == api.Share{} && b == api.Share{}, e
}

// checkErrors expects an error, and only zero values with it.
func checkErrors(t *testing.T, calls map[string]func() (bool, api.Errno), want api.Errno, name string) {
	t.Helper()
	for call, f := range calls {
		if isZero, e := f(); !isZero || e != want {
			t.Errorf("%s, %s: error %d (a zero value with it: %v); want error %d", call, name, e, isZero, want)
		}
	}
}

func TestInvalidSpreads(t *testing.T) {
	valid, other := masses("0:1/2 1:1/2"), masses("0:1/2")
	for name, s := range invalidSpreads() {
		checkErrors(t, ofOne(s), api.ErrSpread, name)
		checkErrors(t, ofTwo(s, valid), api.ErrSpread, name)
		checkErrors(t, ofTwo(valid, s), api.ErrSpread, name+" as the second one")
		checkErrors(t, ofTwo(other, s), api.ErrSpread, name+" twice")
	}
}

func TestInvalidShares(t *testing.T) {
	for _, a := range invalid() {
		for _, s := range []api.Spread{masses("0:1/2 1:1/2"), steps(0, 400).spread()} {
			checkErrors(t, withShare(s, a), api.ErrShare, "an invalid share")
		}
		// The spread comes first.
		for name, s := range invalidSpreads() {
			checkErrors(t, withShare(s, a), api.ErrSpread, "an invalid share, and "+name)
		}
	}
}

// No function writes to what was passed to it.
func TestArgumentsAreLeftAsTheyAre(t *testing.T) {
	l := samples(12)
	for i := range l {
		a, b := l[i].spread(), l[len(l)-1-i].spread()
		values := []api.Share{b[0].At, a[0].At, b[0].At, a[len(a)-1].At}
		weights, list := shares("1/3 2/3"), []api.Spread{a, b}
		before, behind, beforeValues := slices.Clone(a), slices.Clone(b), slices.Clone(values)
		spread.Check(a)
		spread.Same(a, b)
		spread.Tally(values)
		spread.Mix(list, weights)
		for _, calls := range []map[string]func() (bool, api.Errno){ofOne(a), ofTwo(a, b), withShare(a, of(ratio(-1, 2)))} {
			for _, f := range calls {
				f()
			}
		}
		if !slices.Equal(a, before) || !slices.Equal(b, behind) || !slices.Equal(values, beforeValues) ||
			!slices.Equal(weights, shares("1/3 2/3")) || !spread.Same(list[0], before) || !spread.Same(list[1], behind) {
			t.Errorf("a function wrote to its arguments %s and %s", brief(text(before)), brief(text(behind)))
		}
	}
}

// edges are numbers at the limits of shares.
func edges() []*big.Rat {
	one, most := big.NewInt(1), above(power(511), -1)
	least := new(big.Int).Neg(power(511))
	return []*big.Rat{over(least, one), over(most, one), over(one, most), over(least, most), over(most, above(most, -1)), minus(ratio(0, 1), over(one, most))}
}
