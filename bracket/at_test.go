package bracket_test

import (
	"math"
	"math/big"
	"math/rand"
	"slices"
	"testing"

	"wardmote/api"
	"wardmote/bracket"
	"wardmote/radical"
	"wardmote/wide"
)

// P8.2

// checkAt compares At with the second program, and returns the error.
func checkAt(t *testing.T, people []int, x *big.Rat, method int) api.Errno {
	t.Helper()
	before := slices.Clone(people)
	wantLow, wantHigh, want := given(people, x, method)
	low, high, e := bracket.At(people, shareOf(x), method)
	if !slices.Equal(low, wantLow) || !slices.Equal(high, wantHigh) || e != want {
		t.Errorf("At(%v, %v, %d): %v, %v, error %d; want %v, %v, %d", people, x, method, low, high, e, wantLow, wantHigh, want)
	}
	unchanged(t, people, before, "At")
	return want
}

// atOne expects what a divisor gives to one region.
func atOne(t *testing.T, people int, x *big.Rat, method, wantLow, wantHigh int) {
	t.Helper()
	low, high, e := bracket.At([]int{people}, shareOf(x), method)
	if !slices.Equal(low, []int{wantLow}) || !slices.Equal(high, []int{wantHigh}) || e != api.OK {
		t.Errorf("At(%d, %v, %d): %v, %v, error %d; want %d, %d", people, x, method, low, high, e, wantLow, wantHigh)
	}
}

// atFails expects an error of At, with the zero answers.
func atFails(t *testing.T, people []int, x api.Share, method int, want api.Errno) {
	t.Helper()
	if low, high, e := bracket.At(people, x, method); low != nil || high != nil || e != want {
		t.Errorf("At(%v, %s, %d): %v, %v, error %d; want %d", people, text(x), method, low, high, e, want)
	}
}

// What 9, 5, 3 and no people get, worked out by hand.
func TestAtByHand(t *testing.T) {
	for _, x := range []struct {
		method    int
		x         *big.Rat
		low, high []int
	}{
		{api.MeAdams, ratio(3, 1), []int{3, 2, 1, 0}, []int{4, 2, 2, 0}},
		{api.MeAdams, ratio(10, 1), []int{1, 1, 1, 0}, []int{1, 1, 1, 0}},
		{api.MeDean, ratio(15, 4), []int{2, 1, 1, 0}, []int{3, 2, 1, 0}}, // 12/5, 4/3 and 4/5
		{api.MeDean, ratio(4, 1), []int{2, 1, 1, 0}, []int{2, 1, 1, 0}},
		{api.MeHill, ratio(4, 1), []int{2, 1, 1, 0}, []int{2, 1, 1, 0}},
		{api.MeHill, ratio(7, 2), []int{3, 2, 1, 0}, []int{3, 2, 1, 0}}, // 18/7 is above the root of 6, 10/7 above that of 2
		{api.MeHill, ratio(2, 1), []int{5, 3, 2, 0}, []int{5, 3, 2, 0}},
		{api.MeWebster, ratio(2, 1), []int{4, 2, 1, 0}, []int{5, 3, 2, 0}},
		{api.MeWebster, ratio(5, 1), []int{2, 1, 1, 0}, []int{2, 1, 1, 0}},
		{api.MeWebster, ratio(100, 1), []int{0, 0, 0, 0}, []int{0, 0, 0, 0}},
		{api.MeJefferson, ratio(3, 1), []int{2, 1, 0, 0}, []int{3, 1, 1, 0}},
		{api.MeJefferson, ratio(1, 2), []int{17, 9, 5, 0}, []int{18, 10, 6, 0}},
		{api.MeJefferson, ratio(10, 1), []int{0, 0, 0, 0}, []int{0, 0, 0, 0}},
	} {
		low, high, e := bracket.At([]int{9, 5, 3, 0}, shareOf(x.x), x.method)
		if !slices.Equal(low, x.low) || !slices.Equal(high, x.high) || e != api.OK {
			t.Errorf("At(9 5 3 0, %v, %d): %v, %v, error %d; want %v, %v", x.x, x.method, low, high, e, x.low, x.high)
		}
	}
}

func TestAt(t *testing.T) {
	errors := map[api.Errno]int{}
	for _, people := range lists(2, 6) {
		for n := 1; n <= 12; n++ {
			for d := 1; d <= 6; d++ {
				for _, method := range methods {
					if total(people) > 0 {
						errors[checkAt(t, people, ratio(n, d), method)]++
					}
				}
			}
		}
	}
	r := random{rand.New(rand.NewSource(3))}
	for range 600 {
		people := r.census(1+r.Intn([]int{4, 4, 4, 60}[r.Intn(4)]), []int{30, 1000, api.MaxPeople}[r.Intn(3)])
		x := ratio(1+slices.Max(people), 1+r.Intn(1005))
		if r.Intn(2) > 0 {
			x = quotient(ratio(1+r.Intn(2*slices.Max(people)), 1), ratio(1+r.Intn(1200), 1+r.Intn(20)))
		}
		for _, method := range methods {
			errors[checkAt(t, people, x, method)]++
		}
	}
	if errors[api.OK] < 10000 || errors[api.ErrArg] < 100 {
		t.Errorf("the test is wrong: it met the errors %v", errors)
	}
}

// Quotients that are signposts give one number or one more; such beside them give one of both.
func TestAtSignposts(t *testing.T) {
	r := rand.New(rand.NewSource(4))
	for _, method := range []int{api.MeAdams, api.MeDean, api.MeWebster, api.MeJefferson} {
		for s := range api.MaxSeats {
			post := signpost(method, s)
			if post.Sign() == 0 {
				continue
			}
			people := []int{1, s + 1, 1 + r.Intn(api.MaxPeople), api.MaxPeople}[r.Intn(4)]
			all := ratio(people, 1)
			atOne(t, people, quotient(all, post), method, s, s+1)
			for _, apart := range []*big.Rat{ratio(1, 1000000), quotient(ratio(1, 1), power(400))} {
				above, below := new(big.Rat).Add(post, apart), new(big.Rat).Sub(post, apart)
				atOne(t, people, quotient(all, above), method, s+1, s+1)
				atOne(t, people, quotient(all, below), method, s, s)
			}
		}
	}
}

// No fraction is a signpost of MeHill but 0. The closest ones with parts of up to 250 bits are found by the equation of
// Pell: if a^2 - s (s + 1) b^2 = 1, a / b is above the root, and s (s + 1) b / a below it.
func TestAtRoots(t *testing.T) {
	for _, s := range []int{1, 2, 3, 8, 49, 100, 498, 998, 999} {
		product := big.NewInt(int64(s * (s + 1)))
		first, second := big.NewInt(int64(2*s+1)), big.NewInt(2)
		a, b := first, second
		for a.BitLen() <= 235 {
			above := new(big.Rat).SetFrac(a, b)
			below := new(big.Rat).SetFrac(new(big.Int).Mul(product, b), a)
			for _, people := range []int{1, 7, api.MaxPeople} {
				atOne(t, people, quotient(ratio(people, 1), above), api.MeHill, s+1, s+1)
				atOne(t, people, quotient(ratio(people, 1), below), api.MeHill, s, s)
			}
			// The next solution is the product of this one and the first one.
			mixed := new(big.Int).Mul(product, new(big.Int).Mul(b, second))
			nextA := new(big.Int).Add(new(big.Int).Mul(a, first), mixed)
			b = new(big.Int).Add(new(big.Int).Mul(a, second), new(big.Int).Mul(b, first))
			a = nextA
		}
	}
}

// The numbers that x gives by MeHill, held against the roots themselves.
func TestAtHillByRoots(t *testing.T) {
	// order returns 1, 0 or -1 if p / n times d is above the root of s (s + 1), equal to it, or below it.
	order := func(p, n, d, s int) int {
		r, e := radical.Make([]api.Term{{Times: p * d, Under: 1}, {Times: -n, Under: s * (s + 1)}})
		if e != api.OK {
			t.Fatalf("Make: error %d", e)
		}
		sign, e := radical.Sign(r)
		if e != api.OK {
			t.Fatalf("Sign: error %d", e)
		}
		return sign
	}
	r := rand.New(rand.NewSource(5))
	for range 3000 {
		p, d := 1+r.Intn(1000000), 1+r.Intn(1000)
		n := 1 + p*d/(1+r.Intn(900))
		low, high, e := bracket.At([]int{p}, shareOf(ratio(n, d)), api.MeHill)
		if e != api.OK || low[0] != high[0] || low[0] == 0 {
			t.Errorf("At(%d, %d/%d, MeHill): %v, %v, error %d", p, n, d, low, high, e)
			continue
		}
		s := low[0]
		if order(p, n, d, s) >= 0 || s > 1 && order(p, n, d, s-1) <= 0 {
			t.Errorf("At(%d, %d/%d, MeHill): %d", p, n, d, s)
		}
	}
}

// A quotient above 0 is above the signpost 0, and without people there is nothing, by all methods.
func TestAtGreatDivisors(t *testing.T) {
	for _, method := range methods {
		want := 0
		if signpost(method, 0).Sign() == 0 {
			want = 1
		}
		for _, x := range []*big.Rat{ratio(2000000001, 1), power(100), power(255)} {
			atOne(t, 1, x, method, want, want)
			low, high, e := bracket.At([]int{0, api.MaxPeople, 0}, shareOf(x), method)
			if !slices.Equal(low, []int{0, want, 0}) || !slices.Equal(high, low) || e != api.OK {
				t.Errorf("At(0 10^9 0, %v, %d): %v, %v, error %d", x, method, low, high, e)
			}
		}
	}
	for _, method := range methods {
		checkAt(t, []int{0, 1, 5}, longest, method)
	}
}

// longest is the greatest share.
var longest = plus(power(511), -1)

// The greatest number may be 1000, but not 1001, even if the least one is 1000.
func TestAtMostSeats(t *testing.T) {
	apart := quotient(ratio(1, 1), power(200))
	for _, method := range []int{api.MeAdams, api.MeDean, api.MeWebster, api.MeJefferson} {
		post := signpost(method, api.MaxSeats)
		for _, people := range []int{1, 1000, api.MaxPeople} {
			all := ratio(people, 1)
			atOne(t, people, quotient(all, signpost(method, 999)), method, 999, 1000)
			atOne(t, people, quotient(all, new(big.Rat).Sub(post, apart)), method, 1000, 1000)
			for _, q := range []*big.Rat{post, new(big.Rat).Add(post, apart), plus(post, 1), plus(post, 1000000)} {
				atFails(t, []int{people}, shareOf(quotient(all, q)), method, api.ErrArg)
				atFails(t, []int{0, 1, people}, shareOf(quotient(all, q)), method, api.ErrArg)
			}
		}
	}
	for people, q := range map[int]*big.Rat{1: ratio(10004998, 10000), 3: ratio(100049987, 100000), api.MaxPeople: ratio(10004998, 10000)} {
		atOne(t, people, quotient(ratio(people, 1), q), api.MeHill, 1000, 1000) // the root of 1001000 is 1000.49987..
		atFails(t, []int{people}, shareOf(quotient(ratio(people, 1), ratio(10004999, 10000))), api.MeHill, api.ErrArg)
		atFails(t, []int{people}, shareOf(quotient(ratio(people, 1), ratio(1001, 1))), api.MeHill, api.ErrArg)
	}
}

// A quotient may be too long even if it is not great.
func TestAtLongQuotients(t *testing.T) {
	nearOne := quotient(longest, plus(power(511), -2)) // one part of 2 divided by it is 2^512 - 4
	for _, method := range []int{api.MeAdams, api.MeDean, api.MeWebster, api.MeJefferson} {
		low, _, e := bracket.At([]int{1, 0}, shareOf(nearOne), method)
		if len(low) != 2 || e != api.OK {
			t.Errorf("At(1, nearly 1, %d): %v, error %d", method, low, e)
		}
		atFails(t, []int{2}, shareOf(nearOne), method, api.ErrBig)
		atFails(t, []int{1, 2}, shareOf(nearOne), method, api.ErrBig)
		atFails(t, []int{2, 1}, shareOf(nearOne), method, api.ErrBig)
		atFails(t, []int{0, 0, 2}, shareOf(nearOne), method, api.ErrBig)
	}
	// Quotients have parts of 511 bits at most, and for MeHill squares of such.
	long, short := quotient(plus(power(256), 1), power(256)), quotient(plus(power(255), -1), plus(power(255), -2))
	for _, x := range []*big.Rat{nearOne, long, short, power(256), power(255), plus(power(255), 1), quotient(ratio(1, 1), power(250)), quotient(ratio(3, 1), power(510)), longest} {
		for _, people := range [][]int{{1}, {2}, {3}, {0, 7}, {api.MaxPeople}, {api.MaxPeople, 1}, {1, 2, 3}, {4, 1}} {
			for _, method := range methods {
				checkAt(t, people, x, method)
			}
		}
	}
	atFails(t, []int{1}, shareOf(nearOne), api.MeHill, api.ErrBig)
	atFails(t, []int{1}, shareOf(long), api.MeHill, api.ErrBig)
	atFails(t, []int{1}, shareOf(power(256)), api.MeHill, api.ErrBig)
	atOne(t, 1, short, api.MeHill, 1, 1)
	atOne(t, 1, long, api.MeWebster, 1, 1)
	atOne(t, 1, power(510), api.MeAdams, 1, 1)
}

// The first region with an error tells it.
func TestErrorsRegionByRegion(t *testing.T) {
	// 1 and 3 people have great quotients, but short ones; those of 2 and 4 people have numerators of 2^511 and 2^512.
	third := shareOf(quotient(ratio(3, 1), power(510)))
	for _, method := range []int{api.MeAdams, api.MeDean, api.MeWebster, api.MeJefferson} {
		atFails(t, []int{1, 2}, third, method, api.ErrArg)
		atFails(t, []int{2, 1}, third, method, api.ErrBig)
		atFails(t, []int{3, 2}, third, method, api.ErrArg)
		atFails(t, []int{0, 4, 1}, third, method, api.ErrBig)
		atFails(t, []int{0, 1, 0, 4}, third, method, api.ErrArg)
		// One person has few seats, then there is an error.
		atFails(t, []int{1, api.MaxPeople}, shareOf(ratio(1, 1)), method, api.ErrArg)
		atFails(t, []int{1, 2, api.MaxPeople}, shareOf(quotient(longest, plus(power(511), -2))), method, api.ErrBig)
	}
	// The squares of the quotients of 3^10 people and 1 have parts of 2^500, and that of 64 people one of 2^512.
	x := shareOf(quotient(ratio(59049, 1), power(250)))
	atFails(t, []int{59049, 1}, x, api.MeHill, api.ErrArg)
	atFails(t, []int{59049, 64}, x, api.MeHill, api.ErrArg)
	atFails(t, []int{64, 59049}, x, api.MeHill, api.ErrBig)
	atFails(t, []int{0, 64, 59049}, x, api.MeHill, api.ErrBig)
}

// Shares that are not valid.
func noShares() []api.Share {
	one, two, four, minus := wide.Of(1), wide.Of(2), wide.Of(4), wide.Of(-1)
	return []api.Share{{}, {N: one}, {N: minus}, {N: two, D: four}, {N: four, D: two}, {N: one, D: minus}, {N: minus, D: minus}, {D: two}, {N: minus, D: wide.Of(math.MinInt)}}
}

func TestErrorsOfAt(t *testing.T) {
	c := []int{9, 5, 3}
	valid := []*big.Rat{ratio(6, 1), ratio(1, 1), ratio(1, 1000000), longest}
	notAbove := []*big.Rat{ratio(0, 1), ratio(-1, 1), ratio(-6, 7), new(big.Rat).Neg(power(511)), quotient(ratio(-1, 1), longest)}
	someMethods := slices.Concat(methods, noMethods)
	for _, people := range noCensuses {
		for _, method := range someMethods {
			for _, x := range slices.Concat(valid, notAbove) {
				atFails(t, people, shareOf(x), method, api.ErrQuota)
			}
			for _, x := range noShares() {
				atFails(t, people, x, method, api.ErrQuota)
			}
		}
	}
	for _, method := range someMethods {
		for _, x := range noShares() {
			atFails(t, c, x, method, api.ErrShare)
		}
		for _, x := range notAbove {
			atFails(t, c, shareOf(x), method, api.ErrArg)
		}
	}
	for _, method := range noMethods {
		for _, x := range valid {
			atFails(t, c, shareOf(x), method, api.ErrArg)
		}
		// Also where a quotient is too long.
		atFails(t, []int{2}, shareOf(quotient(longest, plus(power(511), -2))), method, api.ErrArg)
	}
}

// The answers share no memory.
func TestAnswersOfAt(t *testing.T) {
	people := []int{9, 5, 3}
	low, high, _ := bracket.At(people, shareOf(ratio(4, 1)), api.MeWebster)
	low[0] = 77
	if high[0] == 77 || people[0] == 77 {
		t.Errorf("At: its answers share memory: %v, %v", low, high)
	}
}
