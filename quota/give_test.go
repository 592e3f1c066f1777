package quota_test

import (
	"math"
	"math/rand"
	"slices"
	"testing"

	"wardmote/api"
	"wardmote/quota"
)

// P6.3

// checkGive compares Give with the second program, and returns the outcome.
func checkGive(t *testing.T, people []int, seats, method int, least []int) outcome {
	t.Helper()
	before, beside := slices.Clone(people), slices.Clone(least)
	want := awarded(people, seats, method, least)
	got, e := quota.Give(people, seats, method, least)
	if !sameAward(got, want.award) || e != want.e || e != api.OK && !isEmpty(got) {
		t.Errorf("Give(%v, %d, %d, %v): %v, error %d; want %v, error %d, since %s", people, seats, method, least, got, e, want.award, want.e, want.end)
	}
	unchanged(t, people, before, "Give")
	unchanged(t, least, beside, "Give")
	return want
}

// All censuses of up to three regions with few people, and all their minimums.
func TestGiveToFewRegions(t *testing.T) {
	ends := map[string]int{}
	for _, people := range lists(3, 4) {
		if total(people) == 0 {
			continue
		}
		for seats := 1; seats <= 5; seats++ {
			for _, least := range append(lists(len(people), seats), nil) {
				if len(least) != 0 && len(least) != len(people) || total(least) > seats {
					continue
				}
				for _, method := range methods {
					ends[checkGive(t, people, seats, method, least).end]++
				}
			}
		}
	}
	for _, end := range []string{filled, nobody, tooMany, tooFew, ties, decided} {
		if ends[end] < 100 {
			t.Errorf("the test is wrong: only %d times %s", ends[end], end)
		}
	}
}

// lists returns all lists of one up to so many numbers from 0 to most.
func lists(length, most int) [][]int {
	if length == 0 {
		return nil
	}
	shorter := lists(length-1, most)
	l := slices.Clone(shorter)
	if length == 1 {
		shorter = [][]int{nil}
	}
	for _, start := range shorter {
		if len(start) == length-1 {
			for n := range most + 1 {
				l = append(l, with(start, n))
			}
		}
	}
	return l
}

func TestGiveAtRandom(t *testing.T) {
	r := random{rand.New(rand.NewSource(3))}
	ends, rounds := map[string]int{}, map[int]int{}
	for range 30000 {
		people := r.census(1+r.Intn([]int{3, 8, 60}[r.Intn(3)]), []int{3, 12, 1000, api.MaxPeople}[r.Intn(4)])
		seats, method := 1+r.Intn([]int{5, 30, 1000}[r.Intn(3)]), methods[r.Intn(4)]
		x := checkGive(t, people, seats, method, r.least(people, seats, method))
		ends[x.end]++
		rounds[len(x.left)]++
	}
	for _, end := range []string{filled, nobody, tooMany, tooFew, ties, decided} {
		if ends[end] < 20 {
			t.Errorf("the test is wrong: only %d times %s", ends[end], end)
		}
	}
	for n := range 6 {
		if rounds[n] < 20 {
			t.Errorf("the test is wrong: only %d times %d rounds in which regions left", rounds[n], n)
		}
	}
}

// given is a call of Give, with what is expected of it. The numbers are worked out by hand.
type given struct {
	name          string
	people        []int
	seats, method int
	least         []int
	want          api.Award
	end           string
	rounds        int // in which regions left
}

// checkGiven expects what was worked out by hand, also of the second program.
func checkGiven(t *testing.T, l []given) {
	t.Helper()
	for _, x := range l {
		e := api.OK
		if x.want.Seats == nil {
			e = api.ErrFail
		}
		if got, f := quota.Give(x.people, x.seats, x.method, x.least); !sameAward(got, x.want) || f != e || f != api.OK && !isEmpty(got) {
			t.Errorf("%s: %v, error %d; want %v, error %d", x.name, got, f, x.want, e)
		}
		if y := checkGive(t, x.people, x.seats, x.method, x.least); y.end != x.end || len(y.left) != x.rounds {
			t.Errorf("%s: %s, behind %d rounds; want that %s, behind %d", x.name, y.end, len(y.left), x.end, x.rounds)
		}
	}
}

func sure(seats ...int) api.Award { return api.Award{Seats: seats} }

func tie(tied []int, open int, seats ...int) api.Award {
	return api.Award{Seats: seats, Tied: tied, Open: open}
}

// numbers returns the numbers of so many regions.
func numbers(count int) []int {
	var l []int
	for i := range count {
		l = append(l, i)
	}
	return l
}

func TestGiveWithoutMinimums(t *testing.T) {
	none, all := api.Award{}, numbers(60)
	checkGiven(t, []given{
		{"one region", []int{1}, 1, api.MeHare, nil, sure(1), decided, 0},
		{"a person, and 1000 seats", []int{1}, 1000, api.MeHare, nil, sure(1000), decided, 0},
		{"10^9 people, and 1000 seats", []int{api.MaxPeople}, 1000, api.MeHare, nil, sure(1000), decided, 0},
		{"no remainders", []int{3, 2, 1}, 6, api.MeHare, nil, sure(3, 2, 1), decided, 0},
		{"a region without people", []int{0, 5}, 4, api.MeHare, nil, sure(0, 4), decided, 0},
		{"quotients 3/2, 3/2, 2", []int{3, 3, 4}, 5, api.MeHare, nil, tie([]int{0, 1}, 1, 1, 1, 2), ties, 0},
		{"quotients 9/5, 8/5, 8/5", []int{18, 16, 16}, 5, api.MeHare, nil, tie([]int{1, 2}, 1, 2, 1, 1), ties, 0},
		{"quotients 8/5, 9/5, 8/5", []int{16, 18, 16}, 5, api.MeHare, nil, tie([]int{0, 2}, 1, 1, 2, 1), ties, 0},
		{"quotients 3/2, 3/2, 1/5, 9/5", []int{15, 15, 2, 18}, 5, api.MeHare, nil, tie([]int{0, 1}, 1, 1, 1, 0, 2), ties, 0},
		{"equal remainders that all get a seat", []int{5, 5, 2}, 2, api.MeHare, nil, sure(1, 1, 0), decided, 0},
		{"60 equal regions, and 59 seats", repeated(1, 60), 59, api.MeHare, nil, tie(all, 59, repeated(0, 60)...), ties, 0},
		{"60 equal regions, and 60 seats", repeated(1, 60), 60, api.MeHare, nil, sure(repeated(1, 60)...), decided, 0},
		{"60 equal regions, and 61 seats", repeated(7, 60), 61, api.MeHare, nil, tie(all, 1, repeated(1, 60)...), ties, 0},
		{"60 regions of 10^9, and 1000 seats", repeated(api.MaxPeople, 60), 1000, api.MeHare, nil, tie(all, 40, repeated(16, 60)...), ties, 0},
		{"MeDroop: quota 201", []int{1000}, 4, api.MeDroop, nil, sure(4), decided, 0},
		{"MeDroop: quota 2 of 5 people", []int{5}, 4, api.MeDroop, nil, none, tooFew, 0},
		{"MeDroop: as many quotients as seats", []int{2, 1}, 3, api.MeDroop, nil, sure(2, 1), decided, 0},
		{"MeDroop: a tie of remainders of 0", []int{3, 3, 0}, 7, api.MeDroop, nil, tie([]int{0, 1}, 1, 3, 3, 0), ties, 0},
		{"MeDroop: as many seats left as regions with people", []int{3, 3, 0}, 8, api.MeDroop, nil, sure(4, 4, 0), decided, 0},
		{"MeDroop: one more than that, and than regions with people", []int{3, 3, 0}, 9, api.MeDroop, nil, none, tooFew, 0},
		{"MeDroop: 998 seats left for two regions", []int{1, 1}, 1000, api.MeDroop, nil, none, tooFew, 0},
		{"MeHagenbach: quotients 12/5, 8/5", []int{3, 2}, 3, api.MeHagenbach, nil, sure(2, 1), decided, 0},
		{"MeHagenbach: three quotients 2/3, and one seat", []int{1, 1, 1}, 1, api.MeHagenbach, nil, tie([]int{0, 1, 2}, 1, 0, 0, 0), ties, 0},
		{"MeHagenbach: a quotient of one seat more than there are", []int{5}, 4, api.MeHagenbach, nil, none, tooMany, 0},
		{"MeHagenbach: quotients 2, 2, and 3 seats", []int{2, 2}, 3, api.MeHagenbach, nil, none, tooMany, 0},
		{"MeImperiali: equal remainders, but no seats left", []int{3, 3, 3, 3}, 4, api.MeImperiali, nil, sure(1, 1, 1, 1), decided, 0},
		{"MeImperiali: six quotients 2/3, and two seats", repeated(1, 6), 2, api.MeImperiali, nil, tie(numbers(6), 2, repeated(0, 6)...), ties, 0},
		{"MeImperiali: one seat too many", []int{5, 3, 2}, 4, api.MeImperiali, nil, none, tooMany, 0},
		{"MeImperiali: two seats too many", []int{1, 1, 1, 1}, 2, api.MeImperiali, nil, none, tooMany, 0},
	})
}

func TestGiveWithMinimums(t *testing.T) {
	none := api.Award{}
	checkGiven(t, []given{
		{"no minimums, not nil", []int{9, 1}, 4, api.MeHare, []int{}, sure(4, 0), decided, 0},
		{"minimums of 0", []int{9, 1}, 4, api.MeHare, []int{0, 0}, sure(4, 0), decided, 0},
		{"a minimum that is above the quotient", []int{9, 1}, 4, api.MeHare, []int{0, 1}, sure(3, 1), decided, 1},
		{"a minimum that is the quotient", []int{3, 1}, 4, api.MeHare, []int{0, 1}, sure(3, 1), decided, 0},
		{"minimums that are the quotients, and all seats", []int{1, 1}, 4, api.MeHare, []int{2, 2}, sure(2, 2), decided, 0},
		{"a minimum of all seats", []int{1, 1}, 4, api.MeHare, []int{4, 0}, sure(4, 0), filled, 1},
		{"a minimum of all seats, for a region without people", []int{0, 1}, 1000, api.MeHare, []int{1000, 0}, sure(1000, 0), filled, 1},
		{"a minimum that leaves another one its own", []int{1, 1}, 4, api.MeHare, []int{1, 3}, sure(1, 3), decided, 1},
		{"minimums of regions without people", []int{0, 10, 0}, 5, api.MeHare, []int{1, 0, 1}, sure(1, 3, 1), decided, 1},
		// The quotas are 10, 20, 22, and 67/3.
		{"three rounds", []int{67, 12, 0, 21}, 10, api.MeHare, []int{0, 1, 5, 1}, sure(3, 1, 5, 1), decided, 3},
		{"a tie behind a round", []int{1, 1, 0}, 4, api.MeHare, []int{0, 0, 1}, tie([]int{0, 1}, 1, 1, 1, 1), ties, 1},
		{"all leave at once, with all seats", []int{1, 1}, 4, api.MeDroop, []int{2, 2}, sure(2, 2), filled, 1},
		{"all leave at once, without all seats", []int{1, 1}, 5, api.MeDroop, []int{2, 2}, none, nobody, 1},
		{"only a region without people stays", []int{1, 0}, 4, api.MeDroop, []int{3, 0}, none, nobody, 1},
		{"too few regions behind a round", []int{3, 3, 0}, 10, api.MeDroop, []int{0, 0, 1}, none, tooFew, 1},
		{"too many quotients behind a round", []int{2, 2, 0}, 4, api.MeHagenbach, []int{0, 0, 1}, none, tooMany, 1},
		{"60 minimums", append([]int{api.MaxPeople}, repeated(1, 59)...), 1000, api.MeImperiali, repeated(16, 60), none, tooMany, 1},
		{"60 minimums, by MeHare", append([]int{api.MaxPeople}, repeated(1, 59)...), 1000, api.MeHare, repeated(16, 60), sure(append([]int{56}, repeated(16, 59)...)...), decided, 1},
	})
}

func TestInvalidMinimums(t *testing.T) {
	for _, l := range [][]int{
		{0}, {1}, {5}, {0, 0, 0}, {1, 1, 1}, {1, 1, -1}, repeated(0, 60), repeated(0, 61), repeated(0, 1000000),
		{-1, 0}, {0, -1}, {-1, -1}, {-1, 3}, {5, -1}, {6, -1}, {math.MinInt, 0}, {0, math.MinInt}, {math.MinInt, math.MinInt}, {math.MinInt, math.MaxInt},
		{6, 0}, {0, 6}, {1001, 0}, {math.MaxInt, 0}, {0, math.MaxInt},
		{3, 3}, {1, 5}, {5, 1}, {5, 5},
		{math.MaxInt, 1}, {math.MaxInt, 2}, {math.MaxInt, math.MaxInt}, {math.MaxInt/2 + 1, math.MaxInt/2 + 1},
	} {
		checkGiveError(t, []int{9, 1}, 5, api.MeHare, l, api.ErrArg, "minimums that are not valid")
	}
	// Sums that are 0 or 5 in an int.
	for _, l := range [][]int{{math.MaxInt, math.MaxInt, 2}, {2, math.MaxInt, math.MaxInt}, {math.MaxInt, math.MaxInt, 7}, {math.MinInt, math.MaxInt, 6}} {
		checkGiveError(t, []int{9, 1, 1}, 5, api.MeHare, l, api.ErrArg, "minimums with a sum that is no int")
	}
	wrapping := append(repeated(1<<60, 16), repeated(0, 44)...)
	checkGiveError(t, repeated(1, 60), 1000, api.MeHare, wrapping, api.ErrArg, "minimums with the sum 2^64")
	checkGiveError(t, repeated(1, 60), 1000, api.MeHare, repeated(1000, 60), api.ErrArg, "60 minimums of all seats")
	checkGiveError(t, repeated(1, 60), 1000, api.MeHare, with(repeated(16, 59), 57), api.ErrArg, "minimums of 1001 seats")
	checkGive(t, repeated(1, 60), 1000, api.MeHare, with(repeated(16, 59), 56))
}

func TestErrorsOfGiveInOrder(t *testing.T) {
	fails := func(least []int, want api.Errno, name string) {
		t.Helper()
		checkGiveError(t, []int{1, 1}, 2, api.MeImperiali, least, want, name)
	}
	fails(nil, api.ErrFail, "an award that fails")
	fails([]int{0}, api.ErrArg, "an award that would fail, with too few minimums")
	fails([]int{3, 0}, api.ErrArg, "an award that would fail, with a minimum that is too great")
	fails([]int{2, 1}, api.ErrArg, "an award that would fail, with minimums that are too great")
	fails([]int{-1, 0}, api.ErrArg, "an award that would fail, with a negative minimum")
	checkGiveError(t, nil, 2, api.MeHare, []int{-1}, api.ErrQuota, "no census, with an invalid minimum")
}

// A result that was kept stays as it is when another one is written to.
func TestGiveReturnsNewLists(t *testing.T) {
	people, least := []int{1, 1, 0}, []int{0, 0, 1}
	for range 2 {
		got, _ := quota.Give(people, 4, api.MeHare, least)
		if !sameAward(got, tie([]int{0, 1}, 1, 1, 1, 1)) {
			t.Errorf("Give: %v", got)
		}
		for i := range got.Seats {
			got.Seats[i] = 99
		}
		for i := range got.Tied {
			got.Tied[i] = 99
		}
		unchanged(t, people, []int{1, 1, 0}, "who writes to an award")
		unchanged(t, least, []int{0, 0, 1}, "who writes to an award")
	}
}
