package bracket_test

import (
	"math"
	"math/rand"
	"slices"
	"testing"

	"wardmote/api"
	"wardmote/bracket"
	"wardmote/divisor"
	"wardmote/quota"
)

// found is a call of Find, and its bracket; or nil where the allocation is not certified.
type found struct {
	people, won []int
	method      int
	least       []int
	want        *frame
}

func checkFound(t *testing.T, all []found) {
	t.Helper()
	for _, x := range all {
		got, e := bracket.Find(x.people, x.won, x.method, x.least)
		certified, eToo := bracket.Certify(x.people, x.won, x.method, x.least)
		if certified != (x.want != nil) || eToo != api.OK {
			t.Errorf("Certify(%v, %v, %d, %v): %v, error %d", x.people, x.won, x.method, x.least, certified, eToo)
		}
		if x.want == nil {
			if got != (api.Bracket{}) || e != api.ErrFail {
				t.Errorf("Find(%v, %v, %d, %v): %v, error %d; want ErrFail", x.people, x.won, x.method, x.least, frameOf(got), e)
			}
			continue
		}
		if frameOf(got) != *x.want || e != api.OK {
			t.Errorf("Find(%v, %v, %d, %v): %v, error %d; want %v", x.people, x.won, x.method, x.least, frameOf(got), e, *x.want)
		}
		checkFind(t, x.people, x.won, x.method, x.least)
	}
}

// checkFind compares Find and Certify with the second program, and says whether the allocation is certified.
func checkFind(t *testing.T, people, won []int, method int, least []int) bool {
	t.Helper()
	lists := [][]int{people, won, least}
	var before [][]int
	for _, l := range lists {
		before = append(before, slices.Clone(l))
	}
	want, isCertified := bracketed(people, won, method, least)
	got, e := bracket.Find(people, won, method, least)
	switch {
	case isCertified && (frameOf(got) != want || e != api.OK):
		t.Errorf("Find(%v, %v, %d, %v): %v, error %d; want %v", people, won, method, least, frameOf(got), e, want)
	case !isCertified && (got != (api.Bracket{}) || e != api.ErrFail):
		t.Errorf("Find(%v, %v, %d, %v): %v, error %d; want ErrFail", people, won, method, least, frameOf(got), e)
	}
	if got, e := bracket.Certify(people, won, method, least); got != isCertified || e != api.OK {
		t.Errorf("Certify(%v, %v, %d, %v): %v, error %d; want %v", people, won, method, least, got, e, isCertified)
	}
	for i, l := range lists {
		unchanged(t, l, before[i], "Find, or Certify,")
	}
	return isCertified
}

func ends(low, high string) *frame { return &frame{low: low, high: high} }

func endless(low string) *frame { return &frame{low: low, high: "0", endless: true} }

func scarce() *frame { return &frame{low: "0", high: "0", endless: true, scarce: true} }

// squared returns f for MeHill.
func squared(f *frame) *frame {
	f.squared = true
	return f
}

// The chapter's examples.
func TestExamples(t *testing.T) {
	c := []int{9, 5, 3}
	checkFound(t, []found{
		{c, []int{3, 1, 1}, api.MeJefferson, nil, ends("5/2", "3")},
		{c, []int{2, 2, 1}, api.MeAdams, nil, ends("9/2", "5")},
		{c, []int{2, 1, 1}, api.MeWebster, nil, ends("18/5", "6")},
		{c, []int{1, 1, 1}, api.MeHill, nil, squared(endless("81/2"))},
		{c, []int{1, 1, 0}, api.MeAdams, nil, scarce()},
		{c, []int{1, 1, 3}, api.MeWebster, nil, nil},
		{c, []int{1, 1, 3}, api.MeWebster, []int{0, 0, 3}, ends("6", "10")},
	})
	low, high, e := bracket.At(c, shareOf(ratio(6, 1)), api.MeWebster)
	if !slices.Equal(low, []int{1, 1, 0}) || !slices.Equal(high, []int{2, 1, 1}) || e != api.OK {
		t.Errorf("At(C, 6, MeWebster): %v, %v, error %d", low, high, e)
	}
}

// P8.1

// Brackets worked out by hand.
func TestBrackets(t *testing.T) {
	c := []int{9, 5, 3}
	checkFound(t, []found{
		{c, []int{2, 1, 1}, api.MeAdams, nil, ends("5", "9")}, // two last ranks are infinite
		{c, []int{2, 1, 1}, api.MeDean, nil, ends("15/4", "27/4")},
		{c, []int{2, 1, 1}, api.MeHill, nil, squared(ends("27/2", "81/2"))},
		{c, []int{1, 0, 0}, api.MeJefferson, nil, ends("5", "9")},
		{c, []int{0, 1, 0}, api.MeWebster, nil, nil},
		{[]int{7}, []int{3}, api.MeWebster, nil, ends("2", "14/5")},
		{[]int{7}, []int{1}, api.MeDean, nil, endless("21/4")},
		{[]int{5}, []int{1000}, api.MeJefferson, nil, ends("5/1001", "1/200")},
		{[]int{5}, []int{1000}, api.MeHill, nil, squared(ends("1/40040", "1/39960"))},
		{repeated(3, 60), repeated(1, 60), api.MeWebster, nil, ends("2", "6")},
		{repeated(api.MaxPeople, 60), repeated(2, 60), api.MeHill, nil, squared(ends("500000000000000000/3", "500000000000000000"))},
	})
}

// Regions that have no more than their minimums have no last rank.
func TestBracketsWithMinimums(t *testing.T) {
	c := []int{9, 5, 3}
	checkFound(t, []found{
		{c, []int{0, 0, 1}, api.MeWebster, []int{0, 0, 1}, endless("18")},
		{c, []int{1, 1, 3}, api.MeWebster, []int{1, 1, 3}, endless("6")},
		{c, []int{1, 1, 3}, api.MeWebster, []int{0, 1, 3}, ends("6", "18")},
		{c, []int{1, 1, 3}, api.MeWebster, []int{0, 0, 2}, nil},
		{c, []int{1, 1, 3}, api.MeWebster, []int{}, nil},
		{c, []int{1, 1, 3}, api.MeWebster, []int{0, 0, 0}, nil},
		{c, []int{1, 2, 3}, api.MeJefferson, []int{0, 0, 3}, nil},
		{[]int{7}, []int{3}, api.MeWebster, []int{3}, endless("2")},
		{[]int{7}, []int{3}, api.MeWebster, []int{2}, ends("2", "14/5")},
		{[]int{7}, []int{1}, api.MeHill, []int{1}, squared(endless("49/2"))},
	})
}

func TestRegionsWithoutPeople(t *testing.T) {
	l := []int{0, 9, 0, 5}
	checkFound(t, []found{
		{l, []int{0, 2, 0, 1}, api.MeWebster, nil, ends("18/5", "6")},
		{l, []int{0, 2, 0, 1}, api.MeWebster, []int{0, 0, 0, 0}, ends("18/5", "6")},
		{l, []int{4, 2, 0, 1}, api.MeWebster, []int{4, 0, 0, 0}, ends("18/5", "6")},
		{l, []int{4, 2, 1, 1}, api.MeWebster, []int{4, 0, 1, 1}, ends("18/5", "6")},
		{l, []int{0, 1, 0, 1}, api.MeAdams, nil, endless("9")},
		{l, []int{1, 0, 0, 0}, api.MeAdams, []int{1, 0, 0, 0}, scarce()},
		{l, []int{1, 2, 0, 1}, api.MeWebster, nil, nil},
		{l, []int{4, 2, 0, 1}, api.MeWebster, []int{3, 0, 0, 0}, nil},
		{l, []int{0, 2, 1, 1}, api.MeWebster, []int{0, 2, 0, 1}, nil},
		{l, []int{0, 2, 1, 1}, api.MeJefferson, []int{0, 2, 0, 1}, nil},
	})
}

// Infinite ranks are held against each other by the people.
func TestInfiniteRanks(t *testing.T) {
	c, d := []int{9, 5, 3}, []int{5, 5, 3}
	for _, method := range []int{api.MeAdams, api.MeDean, api.MeHill} {
		none := scarce()
		none.squared = method == api.MeHill
		checkFound(t, []found{
			{c, []int{1, 1, 0}, method, nil, none},
			{c, []int{1, 0, 0}, method, nil, none},
			{c, []int{1, 0, 1}, method, nil, nil},
			{c, []int{0, 1, 1}, method, nil, nil},
			{c, []int{2, 1, 0}, method, nil, nil}, // one of 9 people has a finite last rank
			{c, []int{2, 1, 0}, method, []int{2, 1, 0}, none},
			{c, []int{2, 1, 0}, method, []int{2, 0, 0}, none},
			{[]int{9, 2, 3}, []int{2, 1, 0}, method, []int{2, 0, 0}, nil},
			{d, []int{1, 0, 0}, method, nil, none},
			{d, []int{0, 1, 0}, method, nil, none},
			{d, []int{0, 0, 1}, method, nil, nil},
			{[]int{9, 0, 3}, []int{1, 4, 0}, method, []int{0, 4, 0}, none},
			{[]int{api.MaxPeople, api.MaxPeople - 1}, []int{0, 1}, method, nil, nil},
			{[]int{api.MaxPeople, api.MaxPeople - 1}, []int{1, 0}, method, nil, none},
		})
	}
	for _, method := range []int{api.MeWebster, api.MeJefferson} {
		if b, e := bracket.Find(c, []int{1, 0, 0}, method, nil); b.Endless || b.Scarce || e != api.OK {
			t.Errorf("Find(C, 1 0 0, %d): %v, error %d", method, frameOf(b), e)
		}
	}
}

// The last rank of one region is the next rank of another one.
func TestEqualEnds(t *testing.T) {
	checkFound(t, []found{
		{[]int{9, 5, 3}, []int{2, 1, 1}, api.MeJefferson, nil, ends("3", "3")},
		{[]int{9, 5, 3}, []int{3, 1, 0}, api.MeJefferson, nil, ends("3", "3")},
		{[]int{4, 2}, []int{1, 1}, api.MeJefferson, nil, ends("2", "2")},
		{[]int{4, 2}, []int{2, 0}, api.MeJefferson, nil, ends("2", "2")},
		{[]int{6, 6}, []int{2, 1}, api.MeWebster, nil, ends("4", "4")},
		{[]int{6, 6}, []int{1, 2}, api.MeWebster, nil, ends("4", "4")},
		{[]int{6, 6}, []int{2, 2}, api.MeWebster, nil, ends("12/5", "4")},
		{[]int{6, 6}, []int{3, 1}, api.MeWebster, nil, nil},
		{[]int{1, 6}, []int{2, 8}, api.MeHill, nil, squared(ends("1/2", "1/2"))},
		{[]int{1, 6}, []int{1, 9}, api.MeHill, nil, squared(ends("1/2", "1/2"))},
		{[]int{1, 6}, []int{2, 9}, api.MeHill, nil, squared(ends("2/5", "1/2"))},
		{[]int{20, 36}, []int{2, 2}, api.MeDean, nil, ends("15", "15")},
		{[]int{3, 6}, []int{2, 2}, api.MeAdams, nil, ends("3", "3")},
		{[]int{3, 6}, []int{1, 3}, api.MeAdams, nil, ends("3", "3")},
	})
}

// Last ranks that differ as little as possible from next ranks, for so many people.
func TestTheClosestRanks(t *testing.T) {
	places := [][2]int{{1, 2}, {2, 1}, {1, 8}, {1, 998}, {998, 1}, {500, 499}, {499, 500}, {499, 499}, {49, 288}, {37, 611}}
	r := rand.New(rand.NewSource(1))
	for range 40 {
		s := 1 + r.Intn(998)
		places = append(places, [2]int{s, 1 + r.Intn(999-s)})
	}
	for _, method := range methods {
		for _, at := range places {
			won := []int{at[0] + 1, at[1]}
			below, above := closest(orderOf(method, at[0], at[1]), api.MaxPeople)
			if checkFind(t, below[:], won, method, nil) {
				t.Errorf("%v have won %v by the method %d, but the last rank of the first one is too small", below, won, method)
			}
			if !checkFind(t, above[:], won, method, nil) {
				t.Errorf("%v have not won %v by the method %d", above, won, method)
			}
			if max(below[0]+above[0], below[1]+above[1]) <= api.MaxPeople {
				t.Errorf("the test is wrong: there are closer ranks than those of %v and %v", below, above)
			}
		}
	}
}

// All censuses of up to three regions with few people, and all that they can have won, with all minimums.
func TestFindForFewRegions(t *testing.T) {
	certified, others := 0, 0
	for _, people := range lists(3, 3) {
		for _, won := range lists(len(people), 3) {
			if total(people) == 0 || total(won) == 0 || len(won) != len(people) {
				continue
			}
			for _, least := range append(minimums(won), nil) {
				for _, method := range methods {
					if checkFind(t, people, won, method, least) {
						certified++
					} else {
						others++
					}
				}
			}
		}
	}
	if certified < 50000 || others < 50000 {
		t.Errorf("the test is wrong: %d allocations are certified, and %d are not", certified, others)
	}
}

// minimums returns all minimums of regions that have won so much.
func minimums(won []int) [][]int {
	all := [][]int{nil}
	for _, most := range won {
		var longer [][]int
		for _, l := range all {
			for n := range most + 1 {
				longer = append(longer, with(l, n))
			}
		}
		all = longer
	}
	return all
}

// Awards, and what is beside them by a few seats.
func TestFindAtRandom(t *testing.T) {
	r := random{rand.New(rand.NewSource(2))}
	certified, others := 0, 0
	for range 6000 {
		x := r.allocation()
		for range r.Intn(4) {
			from, to := r.Intn(len(x.won)), r.Intn(len(x.won))
			if x.won[from] > minimum(x.least, from) {
				x.won[from]--
				x.won[to]++
			}
		}
		if checkFind(t, x.people, x.won, x.method, x.least) {
			certified++
		} else {
			others++
		}
	}
	if certified < 2000 || others < 1000 {
		t.Errorf("the test is wrong: %d allocations are certified, and %d are not", certified, others)
	}
}

// allocation is what regions have won.
type allocation struct {
	people, won []int
	method      int
	least       []int
}

// allocation returns an award, settled in some way.
func (r random) allocation() allocation {
	x := allocation{people: r.census(1+r.Intn([]int{4, 60}[r.Intn(2)]), []int{3, 30, api.MaxPeople / 100}[r.Intn(3)])}
	seats := 1 + r.Intn([]int{8, 80, 1000}[r.Intn(3)])
	x.method, x.least = methods[r.Intn(5)], r.least(x.people, seats)
	award, _ := divisor.Give(x.people, seats, x.method, x.least)
	x.won, _ = quota.Settle(award, r.Perm(len(x.people)))
	return x
}

// Numbers that are no methods of divisors.
var noMethods = []int{10, 16, 0, 1, -1, -11, api.MeHare, api.MeImperiali, math.MinInt, math.MaxInt}

// fails expects an error of Find and Certify, with the zero answers.
func fails(t *testing.T, people, won []int, method int, least []int, want api.Errno) {
	t.Helper()
	if got, e := bracket.Find(people, won, method, least); got != (api.Bracket{}) || e != want {
		t.Errorf("Find(%v, %v, %d, %v): %v, error %d; want %d", people, won, method, least, frameOf(got), e, want)
	}
	if got, e := bracket.Certify(people, won, method, least); got || e != want {
		t.Errorf("Certify(%v, %v, %d, %v): %v, error %d; want %d", people, won, method, least, got, e, want)
	}
}

// Censuses that are none.
var noCensuses = [][]int{nil, {}, {0}, {0, 0, 0}, repeated(0, 60), repeated(1, 61), {-1, 2, 3}, {1, 2, -1}, {api.MaxPeople + 1, 1, 1}, {1, 1, math.MaxInt}, {math.MinInt, 1, 1}}

// An invalid census comes first, whatever else is wrong.
func TestErrorsOfCensuses(t *testing.T) {
	for _, people := range noCensuses {
		for _, won := range [][]int{nil, {1}, repeated(1, len(people)), repeated(-1, len(people))} {
			for _, method := range []int{api.MeAdams, 10, 16} {
				for _, least := range [][]int{nil, repeated(0, len(people)), {5, 5}} {
					fails(t, people, won, method, least, api.ErrQuota)
				}
			}
		}
	}
}

func TestErrorsOfSeats(t *testing.T) {
	c := []int{9, 5, 3}
	for _, won := range [][]int{
		nil, {}, {1}, {1, 1}, {1, 1, 1, 1}, {2, 1, 1, 0},
		{-1, 1, 1}, {2, 1, -1}, {math.MinInt, 1, 1}, {0, 0, 0},
		{1001, 0, 0}, {0, 0, 1001}, {1000, 1, 0}, {0, 1, 1000}, {500, 0, 501}, {334, 334, 333}, {1000, 1000, 1000},
		{1001, -1, 0}, {-1, 1001, 1}, {math.MaxInt, 0, 0}, {math.MaxInt, math.MaxInt, 3}, {math.MaxInt, 1, 1}, {math.MaxInt, math.MinInt, 2},
	} {
		for _, method := range methods {
			fails(t, c, won, method, nil, api.ErrArg)
			fails(t, c, won, method, repeated(0, 3), api.ErrArg)
			fails(t, c, won, method, won, api.ErrArg)
		}
	}
	fails(t, repeated(3, 60), append(repeated(17, 59), -2), api.MeWebster, nil, api.ErrArg)
	fails(t, repeated(3, 60), repeated(17, 60), api.MeWebster, nil, api.ErrArg)
}

// 1000 seats are not too many, for one region or for all.
func TestMostSeats(t *testing.T) {
	checkFound(t, []found{
		{[]int{9, 0, 3}, []int{1000, 0, 0}, api.MeJefferson, []int{1000, 0, 0}, endless("3")},
		{[]int{9, 0, 3}, []int{0, 1000, 0}, api.MeJefferson, []int{0, 1000, 0}, endless("9")},
		{[]int{9, 0, 3}, []int{750, 0, 250}, api.MeWebster, nil, ends("18/1501", "18/1499")},
		{[]int{9, 0, 3}, []int{1, 999, 0}, api.MeWebster, []int{1, 998, 0}, nil},
	})
	won := append(repeated(17, 50), repeated(15, 10)...)
	checkFound(t, []found{{won, won, api.MeWebster, nil, ends("34/35", "34/33")}})
}

func TestErrorsOfMethods(t *testing.T) {
	for _, method := range noMethods {
		fails(t, []int{9, 5, 3}, []int{2, 1, 1}, method, nil, api.ErrArg)
		fails(t, []int{9, 5, 3}, []int{2, 1, 1}, method, []int{0, 0, 1}, api.ErrArg)
		fails(t, []int{9, 0, 3}, []int{2, 1, 1}, method, nil, api.ErrArg)
	}
}

func TestErrorsOfMinimums(t *testing.T) {
	for _, least := range [][]int{
		{0}, {0, 0}, {0, 0, 0, 0}, {2, 1, 1, 0}, repeated(0, 61),
		{-1, 0, 0}, {0, 0, -1}, {-1, 2, 0}, {math.MinInt, 0, 0},
		{3, 1, 1}, {2, 2, 1}, {2, 1, 2}, {3, 0, 0}, {0, 0, 2}, {1001, 0, 0}, {0, math.MaxInt, 0}, {math.MaxInt, math.MaxInt, 2},
	} {
		for _, method := range methods {
			fails(t, []int{9, 5, 3}, []int{2, 1, 1}, method, least, api.ErrArg)
			fails(t, []int{9, 0, 3}, []int{2, 1, 1}, method, least, api.ErrArg)
		}
	}
}
