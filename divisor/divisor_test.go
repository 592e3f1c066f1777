package divisor_test

import (
	"math"
	"math/rand"
	"slices"
	"testing"

	"wardmote/api"
	"wardmote/divisor"
	"wardmote/radical"
)

// The chapter's examples.
func TestExamples(t *testing.T) {
	for _, x := range []struct {
		method, s int
		want      string
	}{{api.MeDean, 1, "4/3"}, {api.MeHill, 1, "2"}, {api.MeWebster, 1, "3/2"}, {api.MeAdams, 0, "0"}} {
		if got, e := divisor.Post(x.method, x.s); text(got) != x.want || e != api.OK {
			t.Errorf("Post(%d, %d): %s, error %d; want %s", x.method, x.s, text(got), e, x.want)
		}
	}
	for _, x := range []struct {
		method, people, s int
		want              string
	}{{api.MeWebster, 9, 1, "6"}, {api.MeHill, 9, 1, "81/2"}} {
		if got, e := divisor.Rank(x.method, x.people, x.s); text(got) != x.want || e != api.OK {
			t.Errorf("Rank(%d, %d, %d): %s, error %d; want %s", x.method, x.people, x.s, text(got), e, x.want)
		}
	}
	if got, e := divisor.Rank(api.MeAdams, 9, 0); got != (api.Share{}) || e != api.ErrZero {
		t.Errorf("Rank(MeAdams, 9, 0): %v, error %d", got, e)
	}
	for _, x := range [][6]int{{api.MeHill, 9, 1, 6, 0, -1}, {api.MeAdams, 5, 0, 4, 0, 1}, {api.MeJefferson, 4, 1, 2, 0, 0}} {
		if got, e := divisor.Above(x[0], x[1], x[2], x[3], x[4]); got != x[5] || e != api.OK {
			t.Errorf("Above(%v): %d, error %d; want %d", x[:5], got, e, x[5])
		}
	}
	c := []int{9, 5, 3}
	checkGiven(t, []given{
		{"C, 5, MeJefferson", c, 5, api.MeJefferson, nil, sure(3, 1, 1), []int{0, 1, 0, 0, 2}},
		{"C, 5, MeAdams", c, 5, api.MeAdams, nil, sure(2, 2, 1), []int{0, 1, 2, 0, 1}},
		{"C, 3, MeWebster", c, 3, api.MeWebster, nil, tie([]int{0, 2}, 1, 1, 1, 0), []int{0, 1}},
		{"C, 4, MeWebster", c, 4, api.MeWebster, nil, sure(2, 1, 1), []int{0, 1, 0, 2}},
		{"D, 3, MeWebster", []int{6, 6}, 3, api.MeWebster, nil, tie([]int{0, 1}, 1, 1, 1), []int{0, 1}},
		{"C, 2, MeAdams", c, 2, api.MeAdams, nil, sure(1, 1, 0), []int{0, 1}},
		{"C, 4, MeWebster, 0 0 2", c, 4, api.MeWebster, []int{0, 0, 2}, sure(1, 1, 2), []int{0, 1}},
		{"0 1, 2, MeAdams, 1 0", []int{0, 1}, 2, api.MeAdams, []int{1, 0}, sure(1, 1), []int{1}},
	})
	if got, e := divisor.Give([]int{1}, 1001, api.MeAdams, nil); !isEmpty(got) || e != api.ErrArg {
		t.Errorf("Give(1, 1001, MeAdams): %v, error %d", got, e)
	}
}

// P7.1

// The first signposts, and the last ones, worked out by hand.
func TestPostByHand(t *testing.T) {
	for method, want := range map[int][]string{
		api.MeAdams:     {"0", "1", "2", "3", "999", "1000"},
		api.MeDean:      {"0", "4/3", "12/5", "24/7", "1998000/1999", "2002000/2001"},
		api.MeHill:      {"0", "2", "6", "12", "999000", "1001000"},
		api.MeWebster:   {"1/2", "3/2", "5/2", "7/2", "1999/2", "2001/2"},
		api.MeJefferson: {"1", "2", "3", "4", "1000", "1001"},
	} {
		for i, s := range []int{0, 1, 2, 3, 999, 1000} {
			if got, e := divisor.Post(method, s); text(got) != want[i] || e != api.OK {
				t.Errorf("Post(%d, %d): %s, error %d; want %s", method, s, text(got), e, want[i])
			}
		}
	}
}

func TestPost(t *testing.T) {
	for _, method := range methods {
		for s := range api.MaxSeats + 1 {
			want := signpost(method, s).RatString()
			if got, e := divisor.Post(method, s); text(got) != want || e != api.OK {
				t.Errorf("Post(%d, %d): %s, error %d; want %s", method, s, text(got), e, want)
			}
		}
	}
}

// A signpost lies from s to s + 1.
func TestPostLiesBetween(t *testing.T) {
	for _, method := range methods {
		for s := range api.MaxSeats + 1 {
			low, high := ratio(s, 1), ratio(s+1, 1)
			if method == api.MeHill {
				low, high = ratio(s*s, 1), ratio((s+1)*(s+1), 1)
			}
			post, _ := divisor.Post(method, s)
			if got, ok := ratio(0, 1).SetString(text(post)); !ok || got.Cmp(low) < 0 || got.Cmp(high) > 0 {
				t.Errorf("Post(%d, %d): %s", method, s, text(post))
			}
		}
	}
}

func checkRank(t *testing.T, method, people, s int) {
	t.Helper()
	got, e := divisor.Rank(method, people, s)
	want := rankOf(method, people, s)
	if want == nil {
		if got != (api.Share{}) || e != api.ErrZero {
			t.Errorf("Rank(%d, %d, %d): %v, error %d; want ErrZero", method, people, s, got, e)
		}
		return
	}
	if text(got) != want.RatString() || e != api.OK {
		t.Errorf("Rank(%d, %d, %d): %s, error %d; want %v", method, people, s, text(got), e, want)
	}
}

func TestRank(t *testing.T) {
	r := rand.New(rand.NewSource(1))
	for _, method := range methods {
		for s := range api.MaxSeats + 1 {
			for _, people := range []int{0, 1, 2, 2 * s, 2*s + 1, s * (s + 1), api.MaxPeople - 1, api.MaxPeople, r.Intn(1000), r.Intn(api.MaxPeople)} {
				checkRank(t, method, people, s)
			}
		}
	}
}

func TestRankByHand(t *testing.T) {
	for _, x := range []struct {
		method, people, s int
		want              string
	}{
		{api.MeAdams, 10, 4, "5/2"}, {api.MeDean, 10, 1, "15/2"}, {api.MeDean, 0, 1, "0"}, {api.MeHill, 10, 2, "50/3"}, {api.MeHill, 0, 1000, "0"},
		{api.MeWebster, 10, 0, "20"}, {api.MeWebster, 0, 0, "0"}, {api.MeJefferson, 10, 3, "5/2"}, {api.MeJefferson, 0, 0, "0"}, {api.MeJefferson, 1001, 1000, "1"},
		{api.MeHill, api.MaxPeople, 1, "500000000000000000"}, {api.MeHill, api.MaxPeople, 1000, "1000000000000000/1001"},
		{api.MeAdams, api.MaxPeople, 1, "1000000000"}, {api.MeWebster, api.MaxPeople, 0, "2000000000"},
	} {
		if got, e := divisor.Rank(x.method, x.people, x.s); text(got) != x.want || e != api.OK {
			t.Errorf("Rank(%d, %d, %d): %s, error %d; want %s", x.method, x.people, x.s, text(got), e, x.want)
		}
	}
}

// Numbers that are no methods of divisors; and such that are from no limit to 1000, from 0 to 10^9, and from 1 to 10^9.
var (
	noMethods = []int{10, 16, 0, 1, -1, -11, api.MeHare, api.MeImperiali, math.MinInt, math.MaxInt}
	noSeats   = []int{-1, 1001, math.MinInt, math.MaxInt}
	noPeople  = []int{-1, api.MaxPeople + 1, math.MinInt, math.MaxInt}
)

func TestErrorsOfPostAndRank(t *testing.T) {
	fails := func(method, people, s int) {
		t.Helper()
		if got, e := divisor.Rank(method, people, s); got != (api.Share{}) || e != api.ErrArg {
			t.Errorf("Rank(%d, %d, %d): %v, error %d", method, people, s, got, e)
		}
	}
	postFails := func(method, s int) {
		t.Helper()
		if got, e := divisor.Post(method, s); got != (api.Share{}) || e != api.ErrArg {
			t.Errorf("Post(%d, %d): %v, error %d", method, s, got, e)
		}
		for _, people := range []int{0, 1, api.MaxPeople, -1, api.MaxPeople + 1} {
			fails(method, people, s)
		}
	}
	for _, method := range noMethods {
		for _, s := range append([]int{0, 1, 1000}, noSeats...) {
			postFails(method, s)
		}
	}
	for _, method := range methods {
		for _, s := range noSeats {
			postFails(method, s)
		}
		for _, people := range noPeople {
			for _, s := range []int{0, 1, 1000} { // also where the signpost is 0
				fails(method, people, s)
			}
		}
	}
}

func TestZeroSignposts(t *testing.T) {
	for _, method := range []int{api.MeAdams, api.MeDean, api.MeHill} {
		for _, people := range []int{0, 1, 9, api.MaxPeople} {
			if got, e := divisor.Rank(method, people, 0); got != (api.Share{}) || e != api.ErrZero {
				t.Errorf("Rank(%d, %d, 0): %v, error %d", method, people, got, e)
			}
		}
	}
}

// P7.2

// checkAbove compares Above with the second program, both ways round.
func checkAbove(t *testing.T, method, p, s, q, u int) int {
	t.Helper()
	want := compare(claim{0, p, rankOf(method, p, s)}, claim{1, q, rankOf(method, q, u)})
	if got, e := divisor.Above(method, p, s, q, u); got != want || e != api.OK {
		t.Errorf("Above(%d, %d, %d, %d, %d): %d, error %d; want %d", method, p, s, q, u, got, e, want)
	}
	if got, e := divisor.Above(method, q, u, p, s); got != -want || e != api.OK {
		t.Errorf("Above(%d, %d, %d, %d, %d): %d, error %d; want %d", method, q, u, p, s, got, e, -want)
	}
	return want
}

func TestAbove(t *testing.T) {
	places := []int{0, 1, 2, 3, 8, 999, 1000}
	people := []int{1, 2, 3, 6, 7, 1000, api.MaxPeople - 1, api.MaxPeople}
	for _, method := range methods {
		found := map[int]int{}
		for _, s := range places {
			for _, u := range places {
				for _, p := range people {
					for _, q := range people {
						found[checkAbove(t, method, p, s, q, u)]++
					}
				}
			}
		}
		for p := 1; p <= 12; p++ {
			for q := 1; q <= 12; q++ {
				for s := range 12 {
					for u := range 12 {
						found[checkAbove(t, method, p, s, q, u)]++
					}
				}
			}
		}
		for order := -1; order <= 1; order++ {
			if found[order] < 100 {
				t.Errorf("the test is wrong: only %d times %d by the method %d", found[order], order, method)
			}
		}
	}
}

func TestAboveAtRandom(t *testing.T) {
	r := rand.New(rand.NewSource(2))
	for range 20000 {
		method, s, u, q := methods[r.Intn(5)], r.Intn(1001), r.Intn(1001), 1+r.Intn(api.MaxPeople)
		first, _ := signpost(api.MeWebster, s).Float64()
		second, _ := signpost(api.MeWebster, u).Float64()
		p := min(max(1, int(float64(q)*first/second)+r.Intn(5)-2), api.MaxPeople)
		checkAbove(t, method, p, s, q, u)
	}
}

// Infinite ranks are greater than all others, and equal for as many people.
func TestInfiniteRanks(t *testing.T) {
	for _, method := range []int{api.MeAdams, api.MeDean, api.MeHill} {
		for _, x := range [][5]int{
			{1, 0, 1, 0, 0}, {9, 0, 9, 0, 0}, {api.MaxPeople, 0, api.MaxPeople, 0, 0},
			{2, 0, 1, 0, 1}, {api.MaxPeople, 0, api.MaxPeople - 1, 0, 1}, {6, 0, 4, 0, 1}, {1, 0, api.MaxPeople, 0, -1},
			{1, 0, api.MaxPeople, 1, 1}, {1, 0, 1, 1, 1}, {1, 0, api.MaxPeople, 1000, 1}, {api.MaxPeople, 1, 1, 0, -1},
		} {
			if got, e := divisor.Above(method, x[0], x[1], x[2], x[3]); got != x[4] || e != api.OK {
				t.Errorf("Above(%d, %v): %d, error %d; want %d", method, x[:4], got, e, x[4])
			}
			checkAbove(t, method, x[0], x[1], x[2], x[3])
		}
	}
}

func TestEqualRanks(t *testing.T) {
	for _, x := range [][5]int{
		{api.MeAdams, 3, 1, 6, 2}, {api.MeAdams, 1000000, 1, api.MaxPeople, 1000}, {api.MeAdams, 999000000, 999, api.MaxPeople, 1000},
		{api.MeDean, 20, 1, 36, 2}, {api.MeDean, 4 * 2001, 1, 3 * 2002000, 1000},
		// The signposts at 1, 8, 49 and 288 are 1, 6, 35 and 204 roots of 2.
		{api.MeHill, 1, 1, 6, 8}, {api.MeHill, 1, 1, 35, 49}, {api.MeHill, 35, 49, 204, 288}, {api.MeHill, 6 * 4000000, 8, 204 * 4000000, 288},
		{api.MeHill, 166666666, 1, 999999996, 8},
		{api.MeWebster, 1, 0, 3, 1}, {api.MeWebster, 1, 0, 2001, 1000}, {api.MeWebster, 499750, 0, 499750 * 1999, 999},
		{api.MeJefferson, 1, 0, 1001, 1000}, {api.MeJefferson, 999000000, 998, api.MaxPeople, 999},
	} {
		if got, e := divisor.Above(x[0], x[1], x[2], x[3], x[4]); got != 0 || e != api.OK {
			t.Errorf("Above(%v): %d, error %d; want 0", x, got, e)
		}
		checkAbove(t, x[0], x[1], x[2], x[3], x[4])
		if x[1] > 1 {
			checkAbove(t, x[0], x[1]-1, x[2], x[3], x[4])
		}
		checkAbove(t, x[0], x[1], x[2], x[3]-1, x[4])
	}
}

// pairs are seats of two regions, at which no signpost is 0.
func pairs() [][2]int {
	l := [][2]int{{1, 2}, {2, 1}, {1, 8}, {1, 1000}, {1000, 1}, {999, 1000}, {1000, 999}, {1000, 1000}, {49, 288}, {498, 500}, {37, 611}}
	r := rand.New(rand.NewSource(3))
	for range 60 {
		l = append(l, [2]int{1 + r.Intn(1000), 1 + r.Intn(1000)})
	}
	return l
}

// Ranks that differ as little as possible, for so many people: a float could not tell which one is greater.
func TestAboveOfTheClosestRanks(t *testing.T) {
	for _, method := range methods {
		for _, at := range pairs() {
			below, above := closest(orderOf(method, at[0], at[1]), api.MaxPeople)
			for order, x := range map[int][2]int{-1: below, 1: above} {
				if got, e := divisor.Above(method, x[0], at[0], x[1], at[1]); got != order || e != api.OK {
					t.Errorf("Above(%d, %d, %d, %d, %d): %d, error %d; want %d", method, x[0], at[0], x[1], at[1], got, e, order)
				}
				checkAbove(t, method, x[0], at[0], x[1], at[1])
			}
			if max(below[0]+above[0], below[1]+above[1]) <= api.MaxPeople {
				t.Errorf("the test is wrong: there are closer ranks than those of %v and %v", below, above)
			}
		}
	}
}

// By the roots themselves: p / root of s (s + 1) is above q / root of u (u + 1) as p root of u (u + 1) is above q root of
// s (s + 1).
func TestAboveOfRoots(t *testing.T) {
	byRoots := func(p, s, q, u int) int {
		r, e := radical.Make([]api.Term{{Times: p, Under: u * (u + 1)}, {Times: -q, Under: s * (s + 1)}})
		if e != api.OK {
			t.Fatalf("Make: error %d", e)
		}
		sign, e := radical.Sign(r)
		if e != api.OK {
			t.Fatalf("Sign: error %d", e)
		}
		return sign
	}
	compared := func(p, s, q, u int) {
		t.Helper()
		want := byRoots(p, s, q, u)
		if got, e := divisor.Above(api.MeHill, p, s, q, u); got != want || e != api.OK {
			t.Errorf("Above(MeHill, %d, %d, %d, %d): %d, error %d; want %d", p, s, q, u, got, e, want)
		}
	}
	for _, at := range pairs() {
		below, above := closest(orderOf(api.MeHill, at[0], at[1]), api.MaxPeople)
		compared(below[0], at[0], below[1], at[1])
		compared(above[0], at[0], above[1], at[1])
	}
	for p := 1; p <= 8; p++ {
		for _, s := range []int{1, 2, 3, 8, 49} {
			for _, u := range []int{1, 2, 8, 49} {
				compared(p, s, 6, u)
			}
		}
	}
}

func TestErrorsOfAbove(t *testing.T) {
	valid := [5]int{api.MeWebster, 5, 1, 4, 1}
	invalid := [5][]int{noMethods, with(noPeople, 0), noSeats, with(noPeople, 0), noSeats}
	fails := func(x [5]int) {
		t.Helper()
		if got, e := divisor.Above(x[0], x[1], x[2], x[3], x[4]); got != 0 || e != api.ErrArg {
			t.Errorf("Above(%v): %d, error %d", x, got, e)
		}
	}
	for i, l := range invalid {
		for _, n := range l {
			x := valid
			x[i] = n
			fails(x)
			for k := range invalid {
				if k != i {
					y := x
					y[k] = invalid[k][0]
					fails(y)
				}
			}
		}
	}
	for _, method := range methods {
		fails([5]int{method, 0, 0, 1, 0})
		fails([5]int{method, 1, 0, 0, 0})
		fails([5]int{method, 0, 1, 0, 1})
		if slices.Contains([]int{api.MeAdams, api.MeDean, api.MeHill}, method) {
			fails([5]int{method, api.MaxPeople + 1, 0, 5, 1})
		}
	}
}
