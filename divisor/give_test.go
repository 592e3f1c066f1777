package divisor_test

import (
	"math"
	"math/rand"
	"slices"
	"testing"

	"wardmote/api"
	"wardmote/divisor"
)

// P7.3

// checkGive compares Give and Order with the second program, and returns the outcome.
func checkGive(t *testing.T, people []int, seats, method int, least []int) outcome {
	t.Helper()
	before, beside := slices.Clone(people), slices.Clone(least)
	want := awarded(people, seats, method, least)
	if got, e := divisor.Give(people, seats, method, least); !sameAward(got, want.award) || e != api.OK {
		t.Errorf("Give(%v, %d, %d, %v): %v, error %d; want %v", people, seats, method, least, got, e, want.award)
	}
	if got, e := divisor.Order(people, seats, method, least); !slices.Equal(got, want.order) || e != api.OK {
		t.Errorf("Order(%v, %d, %d, %v): %v, error %d; want %v", people, seats, method, least, got, e, want.order)
	}
	unchanged(t, people, before, "Give, or Order,")
	unchanged(t, least, beside, "Give, or Order,")
	return want
}

// All censuses of up to three regions with few people, and all their minimums.
func TestGiveToFewRegions(t *testing.T) {
	ends := map[string]int{}
	for _, people := range lists(3, 4) {
		if total(people) == 0 {
			continue
		}
		for seats := 1; seats <= 5; seats++ {
			for _, least := range append(lists(len(people), seats), nil) {
				if len(least) != 0 && len(least) != len(people) || total(least) > seats {
					continue
				}
				for _, method := range methods {
					ends[checkGive(t, people, seats, method, least).end]++
				}
			}
		}
	}
	for _, end := range []string{filled, ties, decided} {
		if ends[end] < 1000 {
			t.Errorf("the test is wrong: only %d times %s", ends[end], end)
		}
	}
}

// lists returns all lists of one up to so many numbers from 0 to most.
func lists(length, most int) [][]int {
	if length == 0 {
		return nil
	}
	shorter := lists(length-1, most)
	l := slices.Clone(shorter)
	if length == 1 {
		shorter = [][]int{nil}
	}
	for _, start := range shorter {
		if len(start) == length-1 {
			for n := range most + 1 {
				l = append(l, with(start, n))
			}
		}
	}
	return l
}

func TestGiveAtRandom(t *testing.T) {
	r := random{rand.New(rand.NewSource(4))}
	ends := map[string]int{}
	for i := range 6000 {
		people := r.census(1+r.Intn([]int{3, 8, 60}[r.Intn(3)]), []int{3, 12, 1000, api.MaxPeople}[r.Intn(4)])
		seats, method := 1+r.Intn([]int{5, 30, 60}[r.Intn(3)]), methods[r.Intn(5)]
		if i%300 == 0 {
			seats = 1 + r.Intn(1000)
		}
		ends[checkGive(t, people, seats, method, r.least(people, seats)).end]++
	}
	for _, end := range []string{filled, ties, decided} {
		if ends[end] < 100 {
			t.Errorf("the test is wrong: only %d times %s", ends[end], end)
		}
	}
}

func TestGiveAtTheLimits(t *testing.T) {
	r := random{rand.New(rand.NewSource(5))}
	for _, method := range methods {
		checkGive(t, repeated(api.MaxPeople, 60), 1000, method, nil)
		checkGive(t, append([]int{api.MaxPeople}, repeated(1, 59)...), 1000, method, nil)
		checkGive(t, r.census(60, api.MaxPeople), 1000, method, nil)
		checkGive(t, []int{api.MaxPeople, api.MaxPeople - 1}, 1000, method, nil)
		checkGive(t, []int{api.MaxPeople, api.MaxPeople - 1}, 999, method, nil)
	}
}

// The last seat goes to the greater one of two ranks that differ as little as possible, or are equal.
func TestGiveByTheClosestRanks(t *testing.T) {
	for _, method := range methods {
		for _, at := range [][2]int{{1, 8}, {8, 1}, {499, 500}, {500, 499}, {1, 998}, {998, 1}, {35, 36}} {
			below, above := closest(orderOf(method, at[0], at[1]), api.MaxPeople)
			seats := at[0] + at[1] + 1
			least := []int{at[0], at[1]}
			second, first := sure(at[0], at[1]+1), sure(at[0]+1, at[1])
			if got, e := divisor.Give([]int{below[0], below[1]}, seats, method, least); !sameAward(got, second) || e != api.OK {
				t.Errorf("Give(%v, %d, %d, %v): %v, error %d; want %v", below, seats, method, least, got, e, second)
			}
			if got, e := divisor.Give([]int{above[0], above[1]}, seats, method, least); !sameAward(got, first) || e != api.OK {
				t.Errorf("Give(%v, %d, %d, %v): %v, error %d; want %v", above, seats, method, least, got, e, first)
			}
			checkGive(t, []int{below[0], below[1]}, 1000, method, nil)
			checkGive(t, []int{above[0], above[1]}, 1000, method, nil)
		}
	}
}

// given is a call of Give and Order, with what is expected of it. The numbers are worked out by hand.
type given struct {
	name          string
	people        []int
	seats, method int
	least         []int
	want          api.Award
	order         []int
}

// checkGiven expects what was worked out by hand, also of the second program.
func checkGiven(t *testing.T, l []given) {
	t.Helper()
	for _, x := range l {
		if got, e := divisor.Give(x.people, x.seats, x.method, x.least); !sameAward(got, x.want) || e != api.OK {
			t.Errorf("%s: %v, error %d; want %v", x.name, got, e, x.want)
		}
		if got, e := divisor.Order(x.people, x.seats, x.method, x.least); !slices.Equal(got, x.order) || e != api.OK {
			t.Errorf("%s: the order is %v, error %d; want %v", x.name, got, e, x.order)
		}
		checkGive(t, x.people, x.seats, x.method, x.least)
	}
}

// A well-known census, whose awards differ by all five methods (Balinski and Young, Fair Representation).
func TestGiveByAllMethods(t *testing.T) {
	for method, want := range map[int][]int{
		api.MeAdams: {9, 7, 5, 3, 2}, api.MeDean: {9, 7, 5, 4, 1}, api.MeHill: {9, 7, 6, 3, 1}, api.MeWebster: {9, 8, 5, 3, 1}, api.MeJefferson: {10, 7, 5, 3, 1},
	} {
		people := []int{9061, 7179, 5259, 3319, 1182}
		if got, e := divisor.Give(people, 26, method, nil); !sameAward(got, sure(want...)) || e != api.OK {
			t.Errorf("Give by the method %d: %v, error %d; want %v", method, got, e, want)
		}
		checkGive(t, people, 26, method, nil)
	}
}

// What does not depend on the method.
func TestGiveByAnyMethod(t *testing.T) {
	all := numbers(60)
	for _, method := range methods {
		checkGiven(t, []given{
			{"one region", []int{1}, 1, method, nil, sure(1), []int{0}},
			{"a person, and 1000 seats", []int{1}, 1000, method, nil, sure(1000), repeated(0, 1000)},
			{"10^9 people, and 1000 seats", []int{api.MaxPeople}, 1000, method, nil, sure(1000), repeated(0, 1000)},
			{"a region without people", []int{0, 5}, 3, method, nil, sure(0, 3), []int{1, 1, 1}},
			{"59 regions without people", with(repeated(0, 59), 1), 2, method, nil, sure(with(repeated(0, 59), 2)...), []int{59, 59}},
			{"two equal regions, and a seat", []int{4, 4}, 1, method, nil, tie([]int{0, 1}, 1, 0, 0), nil},
			{"two equal regions, and two seats", []int{4, 4}, 2, method, nil, sure(1, 1), []int{0, 1}},
			{"two equal regions, and five seats", []int{4, 4}, 5, method, nil, tie([]int{0, 1}, 1, 2, 2), []int{0, 1, 0, 1}},
			{"two equal regions behind a greater one", []int{4, 5, 4}, 2, method, nil, tie([]int{0, 2}, 1, 0, 1, 0), []int{1}},
			{"three equal regions, and two seats", []int{7, 7, 0, 7}, 2, method, nil, tie([]int{0, 1, 3}, 2, 0, 0, 0, 0), nil},
			{"60 equal regions, and a seat", repeated(1, 60), 1, method, nil, tie(all, 1, repeated(0, 60)...), nil},
			{"60 equal regions, and 59 seats", repeated(1, 60), 59, method, nil, tie(all, 59, repeated(0, 60)...), nil},
			{"60 equal regions, and 60 seats", repeated(9, 60), 60, method, nil, sure(repeated(1, 60)...), all},
			{"60 equal regions, and 61 seats", repeated(9, 60), 61, method, nil, tie(all, 1, repeated(1, 60)...), all},
			{"60 regions of 10^9, and 1000 seats", repeated(api.MaxPeople, 60), 1000, method, nil, tie(all, 40, repeated(16, 60)...), slices.Repeat(all, 16)},
			{"no minimums, not nil", []int{4, 9, 4}, 1, method, []int{}, sure(0, 1, 0), []int{1}},
			{"minimums of 0", []int{4, 9, 4}, 1, method, []int{0, 0, 0}, sure(0, 1, 0), []int{1}},
			{"minimums that are all seats", []int{1, 1}, 4, method, []int{3, 1}, sure(3, 1), nil},
			{"a minimum of all seats", []int{1, 9}, 1000, method, []int{1000, 0}, sure(1000, 0), nil},
			{"a minimum of all seats, for a region without people", []int{0, 9}, 1000, method, []int{1000, 0}, sure(1000, 0), nil},
			{"minimums of regions without people", []int{0, 9, 0}, 5, method, []int{1, 0, 2}, sure(1, 2, 2), []int{1, 1}},
			{"a minimum of each region", repeated(1, 60), 60, method, repeated(1, 60), sure(repeated(1, 60)...), nil},
			{"a minimum that the others catch up with", []int{4, 4, 4}, 6, method, []int{2, 0, 0}, sure(2, 2, 2), []int{1, 2, 1, 2}},
			{"a minimum that the other one ties with", []int{4, 4}, 5, method, []int{2, 0}, tie([]int{0, 1}, 1, 2, 2), []int{1, 1}},
			{"a tie of all but the one with a minimum", []int{4, 4, 4}, 2, method, []int{1, 0, 0}, tie([]int{1, 2}, 1, 1, 0, 0), nil},
		})
	}
}

func TestGiveByAdamsDeanAndHill(t *testing.T) {
	for _, method := range []int{api.MeAdams, api.MeDean, api.MeHill} {
		checkGiven(t, []given{
			{"infinite ranks of different people", []int{1, 3, 2}, 2, method, nil, sure(0, 1, 1), []int{1, 2}},
			{"infinite ranks, two of them equal", []int{5, 3, 3, 1}, 2, method, nil, tie([]int{1, 2}, 1, 1, 0, 0, 0), []int{0}},
			{"infinite ranks, two of them equal, with a seat each", []int{5, 3, 3, 1}, 3, method, nil, sure(1, 1, 1, 0), []int{0, 1, 2}},
			{"a person before 10^9 for a second seat", []int{api.MaxPeople, 1}, 2, method, nil, sure(1, 1), []int{0, 1}},
			{"a person before 10^9 with a minimum", []int{api.MaxPeople, 1}, 2, method, []int{1, 0}, sure(1, 1), []int{1}},
			{"three people, one of them with a minimum", []int{3, 3, 3}, 2, method, []int{0, 1, 0}, tie([]int{0, 2}, 1, 0, 1, 0), nil},
		})
	}
	checkGiven(t, []given{
		// Behind the infinite ranks those of 9, 5, 3 people are 9, 5, 3, and then 9/2.
		{"MeAdams", []int{9, 5, 3}, 6, api.MeAdams, nil, sure(3, 2, 1), []int{0, 1, 2, 0, 1, 0}},
		{"MeAdams: ranks 6/2 and 3/1", []int{6, 3}, 4, api.MeAdams, nil, tie([]int{0, 1}, 1, 2, 1), []int{0, 1, 0}},
		// 27/4, 15/4, 9/4, and then 45/12 = 15/4.
		{"MeDean: ranks 15/4 and 15/4", []int{9, 5, 3}, 5, api.MeDean, nil, tie([]int{0, 1}, 1, 2, 1, 1), []int{0, 1, 2, 0}},
		{"MeDean: ranks 15/4 and 15/4, and two seats", []int{9, 5, 3}, 6, api.MeDean, nil, sure(3, 2, 1), []int{0, 1, 2, 0, 0, 1}},
		// The squares of the ranks at one and two seats: 81/2, 25/2, 9/2, and 81/6, 25/6.
		{"MeHill", []int{9, 5, 3}, 6, api.MeHill, nil, sure(3, 2, 1), []int{0, 1, 2, 0, 0, 1}},
		// The signposts at 1 and 8 are 1 and 6 roots of 2.
		{"MeHill: ranks 1 / root of 2 and 6 / root of 72", []int{1, 6}, 10, api.MeHill, []int{1, 8}, tie([]int{0, 1}, 1, 1, 8), nil},
		{"MeHill: ranks 1 / root of 2 and 6 / root of 72, and two seats", []int{1, 6}, 11, api.MeHill, []int{1, 8}, sure(2, 9), []int{0, 1}},
		{"MeHill: a tie behind nine seats", []int{1, 6}, 10, api.MeHill, nil, tie([]int{0, 1}, 1, 1, 8), append([]int{1, 0}, repeated(1, 7)...)},
	})
}

func TestGiveByWebsterAndJefferson(t *testing.T) {
	checkGiven(t, []given{
		{"MeWebster: ranks 2/1 and 6/3", []int{1, 3}, 2, api.MeWebster, nil, tie([]int{0, 1}, 1, 0, 1), []int{1}},
		{"MeWebster: ranks 2/1 and 6/3, and two seats", []int{1, 3}, 3, api.MeWebster, nil, sure(1, 2), []int{1, 0, 1}},
		// The ranks of 10 people: 20, 20/3, 4, 20/7, 20/9; of one: 2.
		{"MeWebster: five seats in a row", []int{10, 1}, 6, api.MeWebster, nil, sure(5, 1), []int{0, 0, 0, 0, 0, 1}},
		{"MeWebster: a tie with open seats left", []int{9, 5, 3}, 4, api.MeWebster, nil, sure(2, 1, 1), []int{0, 1, 0, 2}},
		{"MeWebster: a tie of three for two seats", []int{3, 9, 3}, 3, api.MeWebster, nil, tie([]int{0, 1, 2}, 2, 0, 1, 0), []int{1}},
		{"MeWebster: a tie of four for two seats, of different seats", []int{3, 9, 15, 3}, 5, api.MeWebster, nil, tie(numbers(4), 2, 0, 1, 2, 0), []int{2, 1, 2}},
		// The ranks of 10 people: 10, 5, 10/3, 5/2, 2, 5/3, 10/7, 5/4, 10/9, 1; of one: 1.
		{"MeJefferson: nine seats in a row", []int{1, 10}, 9, api.MeJefferson, nil, sure(0, 9), repeated(1, 9)},
		{"MeJefferson: a tie behind them", []int{1, 10}, 10, api.MeJefferson, nil, tie([]int{0, 1}, 1, 0, 9), repeated(1, 9)},
		{"MeJefferson: a seat each behind them", []int{1, 10}, 11, api.MeJefferson, nil, sure(1, 10), append(repeated(1, 9), 0, 1)},
		{"MeJefferson: a minimum comes first", []int{1, 10}, 10, api.MeJefferson, []int{1, 0}, sure(1, 9), repeated(1, 9)},
		{"MeJefferson: people for no seat", append([]int{api.MaxPeople}, repeated(1, 59)...), 1000, api.MeJefferson, nil, sure(append([]int{1000}, repeated(0, 59)...)...), repeated(0, 1000)},
	})
}

// checkErrors expects that Give and Order return this error, and nothing else.
func checkErrors(t *testing.T, people []int, seats, method int, least []int, want api.Errno, name string) {
	t.Helper()
	if got, e := divisor.Give(people, seats, method, least); !isEmpty(got) || e != want {
		t.Errorf("Give of %s: %v, error %d; want error %d", name, got, e, want)
	}
	if got, e := divisor.Order(people, seats, method, least); got != nil || e != want {
		t.Errorf("Order of %s: %v, error %d; want error %d", name, got, e, want)
	}
}

func TestInvalidCensuses(t *testing.T) {
	for name, people := range map[string][]int{
		"no regions":                    nil,
		"no regions, not nil":           {},
		"a region without people":       {0},
		"60 regions without people":     repeated(0, 60),
		"61 regions":                    repeated(1, 61),
		"61 regions, one with people":   with(repeated(0, 60), 1),
		"a million regions":             repeated(1, 1000000),
		"a negative number":             {-1},
		"a negative number at the end":  {5, -1},
		"numbers with the sum 0":        {5, -5},
		"the least int":                 {math.MinInt, 5},
		"10^9 + 1":                      {api.MaxPeople + 1},
		"10^9 + 1 at the end":           {1, api.MaxPeople + 1},
		"the greatest int":              {math.MaxInt, 1},
		"numbers whose sum is 5 in int": {math.MaxInt, math.MaxInt, 7},
	} {
		checkErrors(t, people, 5, api.MeWebster, nil, api.ErrQuota, name)
		checkErrors(t, people, 0, api.MeWebster, nil, api.ErrQuota, name+", and no seats")
		checkErrors(t, people, 5, api.MeHare, nil, api.ErrQuota, name+", and no method of divisors")
		checkErrors(t, people, 1001, 16, []int{-1}, api.ErrQuota, name+", and nothing else right")
	}
}

func TestInvalidSeatsAndMethods(t *testing.T) {
	for _, seats := range []int{0, -1, 1001, math.MinInt, math.MaxInt} {
		for _, method := range append(methods, 10, 16) {
			for _, least := range [][]int{nil, {0, 0}, {-1, 0}, {0}} {
				checkErrors(t, []int{1, 1}, seats, method, least, api.ErrArg, "invalid seats")
			}
		}
	}
	for _, method := range noMethods {
		for _, seats := range []int{1, 5, 1000, 0} {
			checkErrors(t, []int{1, 1}, seats, method, nil, api.ErrArg, "an invalid method")
			checkErrors(t, []int{1, 1}, seats, method, []int{seats, 0}, api.ErrArg, "an invalid method, with minimums that are all seats")
		}
	}
	// The limits themselves are valid.
	for _, method := range methods {
		for _, seats := range []int{1, 1000} {
			checkGive(t, []int{1, 2}, seats, method, nil)
		}
	}
}

func TestInvalidMinimums(t *testing.T) {
	for _, method := range methods {
		for _, l := range [][]int{
			{0}, {1}, {5}, {0, 0, 0}, {1, 1, 1}, {1, 1, -1}, repeated(0, 60), repeated(0, 61), repeated(0, 1000000),
			{-1, 0}, {0, -1}, {-1, -1}, {-1, 3}, {5, -1}, {6, -1}, {math.MinInt, 0}, {0, math.MinInt}, {math.MinInt, math.MinInt}, {math.MinInt, math.MaxInt},
			{6, 0}, {0, 6}, {1001, 0}, {math.MaxInt, 0}, {0, math.MaxInt},
			{3, 3}, {1, 5}, {5, 1}, {5, 5},
			{math.MaxInt, 1}, {math.MaxInt, 2}, {math.MaxInt, math.MaxInt}, {math.MaxInt/2 + 1, math.MaxInt/2 + 1},
		} {
			checkErrors(t, []int{9, 1}, 5, method, l, api.ErrArg, "minimums that are not valid")
		}
	}
	// Sums that are 0 or 5 in an int.
	for _, l := range [][]int{{math.MaxInt, math.MaxInt, 2}, {2, math.MaxInt, math.MaxInt}, {math.MaxInt, math.MaxInt, 7}, {math.MinInt, math.MaxInt, 6}} {
		checkErrors(t, []int{9, 1, 1}, 5, api.MeWebster, l, api.ErrArg, "minimums with a sum that is no int")
	}
	wrapping := append(repeated(1<<60, 16), repeated(0, 44)...)
	checkErrors(t, repeated(1, 60), 1000, api.MeWebster, wrapping, api.ErrArg, "minimums with the sum 2^64")
	checkErrors(t, repeated(1, 60), 1000, api.MeWebster, repeated(1000, 60), api.ErrArg, "60 minimums of all seats")
	checkErrors(t, repeated(1, 60), 1000, api.MeWebster, with(repeated(16, 59), 57), api.ErrArg, "minimums of 1001 seats")
	checkGive(t, repeated(1, 60), 1000, api.MeWebster, with(repeated(16, 59), 56))
	// Also for regions without people.
	checkErrors(t, []int{0, 1}, 5, api.MeWebster, []int{6, 0}, api.ErrArg, "a minimum that is too great, of a region without people")
	checkErrors(t, []int{0, 1}, 5, api.MeWebster, []int{-1, 0}, api.ErrArg, "a negative minimum of a region without people")
}

// A result that was kept stays as it is when another one is written to.
func TestGiveReturnsNewLists(t *testing.T) {
	people, least := []int{4, 4, 0}, []int{2, 0, 1}
	for range 2 {
		got, _ := divisor.Give(people, 6, api.MeWebster, least)
		if !sameAward(got, tie([]int{0, 1}, 1, 2, 2, 1)) {
			t.Errorf("Give: %v", got)
		}
		order, _ := divisor.Order(people, 6, api.MeWebster, least)
		if !slices.Equal(order, []int{1, 1}) {
			t.Errorf("Order: %v", order)
		}
		full, _ := divisor.Give(people, 3, api.MeWebster, least)
		if !sameAward(full, sure(2, 0, 1)) {
			t.Errorf("Give of the minimums: %v", full)
		}
		for _, l := range [][]int{got.Seats, got.Tied, order, full.Seats} {
			for i := range l {
				l[i] = 99
			}
		}
		unchanged(t, people, []int{4, 4, 0}, "who writes to an award")
		unchanged(t, least, []int{2, 0, 1}, "who writes to an award")
	}
}
