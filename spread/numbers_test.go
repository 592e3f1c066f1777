package spread_test

import (
	"math/big"
	"math/rand"
	"slices"
	"strconv"
	"strings"
	"testing"

	"wardmote/api"
	"wardmote/share"
	"wardmote/spread"
)

// The tests compare package spread with a second one, which computes with math/big.

// point is a value with its probability.
type point struct{ at, p *big.Rat }

// law is a distribution.
type law []point

func plus(x, y *big.Rat) *big.Rat         { return new(big.Rat).Add(x, y) }
func minus(x, y *big.Rat) *big.Rat        { return new(big.Rat).Sub(x, y) }
func times(x, y *big.Rat) *big.Rat        { return new(big.Rat).Mul(x, y) }
func ratio(n, d int) *big.Rat             { return big.NewRat(int64(n), int64(d)) }
func over(n, d *big.Int) *big.Rat         { return new(big.Rat).SetFrac(n, d) }
func power(n uint) *big.Int               { return new(big.Int).Lsh(big.NewInt(1), n) }
func above(n *big.Int, by int64) *big.Int { return new(big.Int).Add(n, big.NewInt(by)) }

// number returns the number with this text.
func number(text string) *big.Rat {
	x, isNumber := new(big.Rat).SetString(text)
	if !isNumber {
		panic(text)
	}
	return x
}

// shareOf returns the share that is x, or ErrBig.
func shareOf(x *big.Rat) (api.Share, api.Errno) {
	return share.Parse(x.RatString())
}

// of returns the share that is x, which is one.
func of(x *big.Rat) api.Share {
	a, e := shareOf(x)
	if e != api.OK {
		panic(x.RatString())
	}
	return a
}

func ratOf(a api.Share) *big.Rat {
	text, e := share.Text(a)
	if e != api.OK {
		panic(a)
	}
	return number(text)
}

// lawOf returns the law of a valid spread.
func lawOf(s api.Spread) law {
	var l law
	for _, m := range s {
		l = append(l, point{ratOf(m.At), ratOf(m.P)})
	}
	return l
}

// spread returns the spread with the masses of l, in their order; it need not be valid.
func (l law) spread() api.Spread {
	var s api.Spread
	for _, x := range l {
		s = append(s, api.Mass{At: of(x.at), P: of(x.p)})
	}
	return s
}

// masses returns the spread of values with their probabilities, as in "0:1/2 1:1/2"; it need not be valid.
func masses(text string) api.Spread {
	var l law
	for _, word := range strings.Fields(text) {
		at, p, _ := strings.Cut(word, ":")
		l = append(l, point{number(at), number(p)})
	}
	return l.spread()
}

func shares(text string) []api.Share {
	var l []api.Share
	for _, word := range strings.Fields(text) {
		l = append(l, of(number(word)))
	}
	return l
}

// gathered returns the law in which equal values of l stand once, and rise.
func (l law) gathered() law {
	sums := map[string]point{}
	for _, x := range l {
		key := x.at.RatString()
		if before, isThere := sums[key]; isThere {
			x.p = plus(x.p, before.p)
		}
		sums[key] = x
	}
	var result law
	for _, x := range sums {
		result = append(result, x)
	}
	slices.SortFunc(result, func(x, y point) int { return x.at.Cmp(y.at) })
	return result
}

// want returns the spread that a result with this law should be, or the error.
func (l law) want() (api.Spread, api.Errno) {
	all := l.gathered()
	if len(all) > api.MaxMasses {
		return nil, api.ErrLong
	}
	var s api.Spread
	for _, x := range all {
		at, e := shareOf(x.at)
		p, f := shareOf(x.p)
		if e != api.OK || f != api.OK {
			return nil, api.ErrBig
		}
		s = append(s, api.Mass{At: at, P: p})
	}
	return s, api.OK
}

func tallied(l []*big.Rat) law {
	var all law
	for _, x := range l {
		all = append(all, point{x, ratio(1, len(l))})
	}
	return all
}

func mixed(l []law, weights []*big.Rat) law {
	var all law
	for i, one := range l {
		for _, x := range one {
			if weights[i].Sign() > 0 {
				all = append(all, point{x.at, times(x.p, weights[i])})
			}
		}
	}
	return all
}

func summed(a, b law) law {
	var all law
	for _, x := range a {
		for _, y := range b {
			all = append(all, point{plus(x.at, y.at), times(x.p, y.p)})
		}
	}
	return all
}

// mean returns the mean of what f makes of a random number.
func (l law) mean(f func(*big.Rat) *big.Rat) *big.Rat {
	sum := new(big.Rat)
	for _, x := range l {
		sum.Add(sum, times(f(x.at), x.p))
	}
	return sum
}

func same(x *big.Rat) *big.Rat { return x }

func (l law) variance() *big.Rat {
	mean := l.mean(same)
	return l.mean(func(x *big.Rat) *big.Rat { return times(minus(x, mean), minus(x, mean)) })
}

// chance returns the probability of the values that stand in this order to a.
func (l law) chance(order int, a *big.Rat) *big.Rat {
	return l.mean(func(x *big.Rat) *big.Rat {
		if x.Cmp(a) == order {
			return ratio(1, 1)
		}
		return new(big.Rat)
	})
}

func (l law) quantile(p *big.Rat) *big.Rat {
	for _, x := range l {
		if plus(l.chance(-1, x.at), x.p).Cmp(p) >= 0 {
			return x.at
		}
	}
	panic("the probabilities do not add up to 1")
}

func distance(a, b law) *big.Rat {
	sum := new(big.Rat)
	for _, x := range append(slices.Clone(a), b...) {
		difference := minus(a.chance(0, x.at), b.chance(0, x.at))
		part := difference.Abs(difference)
		// A value that both have is met twice.
		if a.chance(0, x.at).Sign() > 0 && b.chance(0, x.at).Sign() > 0 {
			part = times(part, ratio(1, 2))
		}
		sum.Add(sum, part)
	}
	return times(sum, ratio(1, 2))
}

// random draws laws.
type random struct{ *rand.Rand }

// integer returns a positive integer of at most so many bits.
func (r random) integer(bits uint) *big.Int {
	return above(new(big.Int).Rand(r.Rand, power(bits)), 1)
}

// rational returns a number whose parts have at most so many bits.
func (r random) rational(bits uint) *big.Rat {
	x := over(r.integer(bits), r.integer(bits))
	if r.Intn(2) == 0 {
		x.Neg(x)
	}
	return x
}

// law returns a law of at most so many values, whose parts have so many bits, and whose probabilities have at most so
// many, too.
func (r random) law(count int, bits, chanceBits uint) law {
	var l law
	for range count {
		l = append(l, point{r.rational(bits), over(r.integer(chanceBits), big.NewInt(1))})
	}
	l = l.gathered()
	sum := new(big.Rat)
	for _, x := range l {
		sum.Add(sum, x.p)
	}
	for i := range l {
		l[i].p = new(big.Rat).Quo(l[i].p, sum)
	}
	return l
}

// samples are laws of all sizes: small ones, and such that lead to results which are no shares. Many have common values.
func samples(count int) []law {
	r := random{rand.New(rand.NewSource(5))}
	var l []law
	for i := range count {
		bits := []uint{2, 2, 8, 60, 250, 500}[i%6]
		chanceBits := []uint{3, 12, 40, 100, 170, 250, 450}[i%7]
		l = append(l, r.law(1+r.Intn(12), bits, chanceBits))
	}
	return l
}

// steps returns the law of so many integers from a first one on, all with the same probability.
func steps(first, count int) law {
	var l law
	for i := range count {
		l = append(l, point{ratio(first+i, 1), ratio(1, count)})
	}
	return l
}

// chained returns a law of so many integers from 0 on, whose probabilities are 1 less 1 / q, then 1 / q less
// 1 / (q + 1) and so on, for q = 2^bits. Its sums from the left are short; those of probabilities that do not stand side
// by side are long.
func chained(count int, bits uint) law {
	end := func(i int) *big.Rat { return over(big.NewInt(1), above(power(bits), int64(i))) }
	l := law{{new(big.Rat), minus(ratio(1, 1), end(0))}}
	for i := 1; i+1 < count; i++ {
		l = append(l, point{ratio(i, 1), minus(end(i-1), end(i))})
	}
	return append(l, point{ratio(count-1, 1), end(count - 2)})
}

// turned returns a law with the same values, and every other probability of l in front of the others.
func (l law) turned() law {
	var order []int
	for first := range 2 {
		for i := first; i < len(l); i += 2 {
			order = append(order, i)
		}
	}
	var turned law
	for i, k := range order {
		turned = append(turned, point{l[i].at, l[k].p})
	}
	return turned
}

// invalid are shares that are not valid.
func invalid() []api.Share {
	one, two := of(ratio(1, 1)).N, of(ratio(2, 1)).N
	return []api.Share{{}, {N: one}, {N: two, D: two}, {D: two}, {N: one, D: of(ratio(-2, 1)).N}}
}

// invalidSpreads are spreads that are not valid, by what is wrong with them.
func invalidSpreads() map[string]api.Spread {
	few, many := steps(0, 400).spread(), steps(0, 400).spread()
	slices.Reverse(few[398:])
	many[399].At = many[398].At
	half := ratio(1, 2)
	beside := law{{over(power(510), above(power(510), -1)), half}, {over(above(power(510), 1), power(510)), half}}
	nearly := over(above(power(510), -1), power(510))
	spreads := map[string]api.Spread{
		"no masses":                           nil,
		"no masses, not nil":                  {},
		"401 masses":                          steps(0, 401).spread(),
		"401 masses, the last one invalid":    append(steps(0, 400).spread(), api.Mass{}),
		"a million masses":                    make(api.Spread, 1000000),
		"equal values":                        masses("1:1/2 1:1/2"),
		"equal values at the end":             many,
		"falling values":                      masses("1:1/2 0:1/2"),
		"falling values at the end":           few,
		"falling values beside each other":    beside.spread(),
		"a probability of 0 in front":         masses("0:0 1:1"),
		"a probability of 0 inside":           masses("0:1/2 1:0 2:1/2"),
		"a probability of 0 at the end":       masses("0:1/2 1:1/2 2:0"),
		"a probability of 0 alone":            masses("0:0"),
		"a probability below 0":               masses("0:-1/2 1:1/2 2:1"),
		"probabilities below 0 and above 1":   masses("0:3/2 1:-1/2"),
		"a probability below 0 alone":         masses("0:-1"),
		"a probability above 1":               masses("0:2"),
		"a sum below 1":                       masses("0:1/2 1:1/3"),
		"a sum above 1":                       masses("0:1/2 1:2/3"),
		"a sum of 2":                          masses("0:1 1:1"),
		"a sum that is nearly 1":              law{{ratio(0, 1), nearly}}.spread(),
		"a sum that is nearly 1, in parts":    law{{ratio(0, 1), half}, {ratio(1, 1), minus(nearly, half)}}.spread(),
		"a sum of a little more than 1":       law{{ratio(0, 1), half}, {ratio(1, 1), minus(plus(half, ratio(1, 1)), nearly)}}.spread(),
		"400 masses, with a sum of 400 / 401": steps(0, 401).spread()[:400],
		"the zero value as a mass":            {api.Mass{}},
	}
	for i, a := range invalid() {
		name := ": " + strconv.Itoa(i)
		spreads["an invalid value"+name] = api.Spread{{At: a, P: of(ratio(1, 1))}}
		spreads["an invalid value at the end"+name] = append(masses("-7:1/2"), api.Mass{At: a, P: of(half)})
		spreads["an invalid probability"+name] = api.Spread{{At: of(half), P: a}}
		spreads["an invalid probability at the end"+name] = append(masses("-7:1/2"), api.Mass{At: of(half), P: a})
	}
	// Halves and wholes that are not in lowest terms.
	two, four := of(ratio(2, 1)).N, of(ratio(4, 1)).N
	spreads["2 / 4 as a value"] = append(masses("0:1/2"), api.Mass{At: api.Share{N: two, D: four}, P: of(half)})
	spreads["2 / 4 as a probability"] = append(masses("0:1/2"), api.Mass{At: of(ratio(1, 1)), P: api.Share{N: two, D: four}})
	spreads["2 / 2 as a probability"] = api.Spread{{At: of(half), P: api.Share{N: two, D: two}}}
	return spreads
}

func text(s api.Spread) string {
	var words []string
	for _, m := range s {
		at, e := share.Text(m.At)
		p, f := share.Text(m.P)
		words = append(words, at+":"+p)
		if e != api.OK || f != api.OK {
			words = append(words, "(an invalid share)")
		}
	}
	return strings.Join(words, " ")
}

// brief cuts what is too long to be read.
func brief(text string) string {
	const most = 300
	if len(text) > most {
		return text[:most] + ".. (" + strconv.Itoa(len(text)) + " octets)"
	}
	return text
}

// check compares a result with the spread that it should be, or with the error.
func check(t *testing.T, got api.Spread, e api.Errno, want law, call string, args ...any) {
	t.Helper()
	s, f := want.want()
	if !slices.Equal(got, s) || e != f {
		t.Errorf("%s%v: %s, error %d; want %s, error %d", call, args, brief(text(got)), e, brief(text(s)), f)
	}
	if e == api.OK && spread.Check(got) != api.OK {
		t.Errorf("%s%v: %s is not valid", call, args, brief(text(got)))
	}
}

// checkShare compares a result with the number that it should be, or expects ErrBig.
func checkShare(t *testing.T, got api.Share, e api.Errno, want *big.Rat, call string, args ...any) {
	t.Helper()
	if a, f := shareOf(want); got != a || e != f {
		t.Errorf("%s%v: %v, error %d; want %s, error %d", call, args, got, e, brief(want.RatString()), f)
	}
}

// checkError expects an error, and no spread with it.
func checkError(t *testing.T, got api.Spread, e, want api.Errno, call string, args ...any) {
	t.Helper()
	if len(got) > 0 || e != want {
		t.Errorf("%s%v: %s, error %d; want error %d", call, args, brief(text(got)), e, want)
	}
}

// checkShareError expects an error, and no share with it.
func checkShareError(t *testing.T, got api.Share, e, want api.Errno, call string, args ...any) {
	t.Helper()
	if got != (api.Share{}) || e != want {
		t.Errorf("%s%v: %v, error %d; want error %d", call, args, got, e, want)
	}
}
