package quota_test

import (
	"math"
	"math/big"
	"math/rand"
	"slices"
	"testing"

	"wardmote/api"
	"wardmote/quota"
)

// The chapter's examples.
func TestExamples(t *testing.T) {
	c, e := []int{7, 3}, []int{5, 3, 1, 1}
	for method, want := range map[int]string{api.MeHare: "5/2", api.MeDroop: "3", api.MeHagenbach: "2", api.MeImperiali: "5/3"} {
		if got, e := quota.Quota(c, 4, method); text(got) != want || e != api.OK {
			t.Errorf("Quota(C, 4, %d): %s, error %d; want %s", method, text(got), e, want)
		}
	}
	if got, e := quota.Quotients(c, 4, api.MeHare); len(got) != 2 || text(got[0]) != "14/5" || text(got[1]) != "6/5" || e != api.OK {
		t.Errorf("Quotients(C, 4, MeHare): %v, error %d", got, e)
	}
	for _, x := range []struct {
		people        []int
		seats, method int
		least         []int
		want          api.Award
		e             api.Errno
	}{
		{c, 4, api.MeHare, nil, api.Award{Seats: []int{3, 1}}, api.OK},
		{e, 5, api.MeHare, nil, api.Award{Seats: []int{2, 1, 0, 0}, Tied: []int{0, 1, 2, 3}, Open: 2}, api.OK},
		{[]int{2, 2}, 3, api.MeHare, nil, api.Award{Seats: []int{1, 1}, Tied: []int{0, 1}, Open: 1}, api.OK},
		{[]int{9, 1}, 4, api.MeHare, []int{0, 2}, api.Award{Seats: []int{2, 2}}, api.OK},
		{[]int{1, 1}, 2, api.MeImperiali, nil, api.Award{}, api.ErrFail},
	} {
		if got, e := quota.Give(x.people, x.seats, x.method, x.least); !sameAward(got, x.want) || e != x.e {
			t.Errorf("Give(%v, %d, %d, %v): %v, error %d; want %v, error %d", x.people, x.seats, x.method, x.least, got, e, x.want, x.e)
		}
	}
	tie := api.Award{Seats: []int{1, 1}, Tied: []int{0, 1}, Open: 1}
	if got, e := quota.Settle(tie, []int{1, 0}); !slices.Equal(got, []int{1, 2}) || e != api.OK {
		t.Errorf("Settle(1 1, tied 0 1, open 1, by 1 0): %v, error %d", got, e)
	}
}

// P6.1

// valid are censuses at the limits.
func valid() [][]int {
	return [][]int{
		{1}, {0, 1}, {1, 0}, {0, 0, 3, 0}, {api.MaxPeople}, {0, api.MaxPeople}, {api.MaxPeople, api.MaxPeople},
		repeated(1, 60), repeated(api.MaxPeople, 60), with(repeated(0, 59), 1), append([]int{api.MaxPeople}, repeated(0, 59)...),
	}
}

func invalid() map[string][]int {
	return map[string][]int{
		"no regions":                       nil,
		"no regions, not nil":              {},
		"one region without people":        {0},
		"two regions without people":       {0, 0},
		"60 regions without people":        repeated(0, 60),
		"61 regions":                       repeated(1, 61),
		"61 regions, one with people":      with(repeated(0, 60), 1),
		"61 regions, the last one without": with(repeated(1, 60), 0),
		"61 regions with too many people":  repeated(math.MaxInt, 61),
		"a million regions":                repeated(1, 1000000),
		"a negative number":                {-1},
		"a negative number in front":       {-1, 5},
		"a negative number at the end":     {5, -1},
		"a negative number as the last":    with(repeated(9, 59), -1),
		"a negative number of ten":         {5, 5, 5, 5, -1, 5, 5, 5, 5, 5},
		"numbers with the sum 0":           {5, -5},
		"the least int":                    {math.MinInt},
		"the least and the greatest int":   {math.MaxInt, math.MinInt, 5},
		"10^9 + 1":                         {api.MaxPeople + 1},
		"10^9 + 1 in front":                {api.MaxPeople + 1, 1},
		"10^9 + 1 at the end":              {1, api.MaxPeople + 1},
		"10^9 + 1 as the last":             with(repeated(9, 59), api.MaxPeople+1),
		"the greatest int":                 {math.MaxInt},
		"a sum that is 5 in an int":        {math.MaxInt, math.MaxInt, 7},
	}
}

func TestCheckAndTotal(t *testing.T) {
	r := random{rand.New(rand.NewSource(1))}
	l := valid()
	for range 300 {
		l = append(l, r.census(1+r.Intn(60), []int{1, 5, 1000, api.MaxPeople}[r.Intn(4)]))
	}
	for _, people := range l {
		before := slices.Clone(people)
		if e := quota.Check(people); e != api.OK {
			t.Errorf("Check(%v): error %d", people, e)
		}
		if got, e := quota.Total(people); got != total(people) || e != api.OK {
			t.Errorf("Total(%v): %d, error %d; want %d", people, got, e, total(people))
		}
		unchanged(t, people, before, "Total")
	}
	for name, people := range invalid() {
		if e := quota.Check(people); e != api.ErrQuota {
			t.Errorf("Check of %s: error %d", name, e)
		}
		if got, e := quota.Total(people); got != 0 || e != api.ErrQuota {
			t.Errorf("Total of %s: %d, error %d", name, got, e)
		}
	}
	if got, _ := quota.Total(repeated(api.MaxPeople, 60)); got != 60000000000 {
		t.Errorf("Total of 60 regions of 10^9: %d", got)
	}
}

// P6.2

func checkQuota(t *testing.T, people []int, seats, method int) {
	t.Helper()
	before := slices.Clone(people)
	want := quotaOf(total(people), seats, method)
	if got, e := quota.Quota(people, seats, method); text(got) != want.RatString() || e != api.OK {
		t.Errorf("Quota(%v, %d, %d): %s, error %d; want %v", people, seats, method, text(got), e, want)
	}
	l, e := quota.Quotients(people, seats, method)
	if len(l) != len(people) || e != api.OK {
		t.Fatalf("Quotients(%v, %d, %d): %d shares, error %d", people, seats, method, len(l), e)
	}
	for i, n := range people {
		if quotient := quotientOf(n, want); text(l[i]) != quotient.RatString() {
			t.Errorf("Quotients(%v, %d, %d)[%d]: %s; want %v", people, seats, method, i, text(l[i]), quotient)
		}
	}
	unchanged(t, people, before, "Quotients")
}

func TestQuotaAndQuotients(t *testing.T) {
	r := random{rand.New(rand.NewSource(2))}
	for _, method := range methods {
		for _, people := range valid() {
			for _, seats := range []int{1, 2, 59, 60, 61, 999, 1000} {
				checkQuota(t, people, seats, method)
			}
		}
		for people := range 40 {
			for seats := 1; seats < 40; seats++ {
				checkQuota(t, []int{people + 1}, seats, method)
			}
		}
		for range 200 {
			checkQuota(t, r.census(1+r.Intn(60), []int{3, 100, api.MaxPeople}[r.Intn(3)]), 1+r.Intn(1000), method)
		}
	}
}

// Beside a multiple of the seats and 1, MeDroop's quota is that of MeHagenbach and 1, or less than that.
func TestDroop(t *testing.T) {
	for people, want := range map[int]int{1: 1, 4: 1, 5: 2, 6: 2, 9: 2, 10: 3, 11: 3, 1000000000: 200000001, 999999999: 200000000} {
		if got, e := quota.Quota([]int{people}, 4, api.MeDroop); text(got) != big.NewInt(int64(want)).String() || e != api.OK {
			t.Errorf("Quota(%d, 4, MeDroop): %s, error %d; want %d", people, text(got), e, want)
		}
	}
}

// Invalid arguments of the functions of censuses, and the order of their errors.

func checkErrors(t *testing.T, people []int, seats, method int, least []int, want api.Errno, name string) {
	t.Helper()
	if got, e := quota.Quota(people, seats, method); got != (api.Share{}) || e != want {
		t.Errorf("Quota of %s: %v, error %d; want error %d", name, got, e, want)
	}
	if got, e := quota.Quotients(people, seats, method); got != nil || e != want {
		t.Errorf("Quotients of %s: %v, error %d; want error %d", name, got, e, want)
	}
	checkGiveError(t, people, seats, method, least, want, name)
}

func checkGiveError(t *testing.T, people []int, seats, method int, least []int, want api.Errno, name string) {
	t.Helper()
	if got, e := quota.Give(people, seats, method, least); !isEmpty(got) || e != want {
		t.Errorf("Give of %s: %v, error %d; want error %d", name, got, e, want)
	}
}

func TestInvalidCensuses(t *testing.T) {
	for name, people := range invalid() {
		checkErrors(t, people, 5, api.MeHare, nil, api.ErrQuota, name)
		checkErrors(t, people, 0, api.MeHare, nil, api.ErrQuota, name+", and no seats")
		checkErrors(t, people, 5, 0, nil, api.ErrQuota, name+", and the method 0")
		checkErrors(t, people, 1001, 5, []int{-1}, api.ErrQuota, name+", and nothing else right")
	}
}

func TestInvalidSeatsAndMethods(t *testing.T) {
	least := []int{0, 0}
	for _, seats := range []int{0, -1, 1001, math.MinInt, math.MaxInt, math.MinInt + 1, math.MaxInt - 1} {
		for _, method := range append(methods, 0, 5) {
			checkErrors(t, []int{1, 1}, seats, method, least, api.ErrArg, "invalid seats")
		}
	}
	for _, method := range []int{0, -1, 5, 10, api.MeAdams, api.MeJefferson, math.MinInt, math.MaxInt} {
		for _, seats := range []int{1, 5, 1000, 0} {
			checkErrors(t, []int{1, 1}, seats, method, least, api.ErrArg, "an invalid method")
		}
	}
}
