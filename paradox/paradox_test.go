package paradox_test

import (
	"math"
	"math/rand"
	"slices"
	"testing"

	"wardmote/api"
	"wardmote/paradox"
)

// The chapter's examples.
func TestExamples(t *testing.T) {
	a := []int{6, 6, 2}
	for _, x := range []struct {
		people        []int
		seats, method int
		want          []int
		e             api.Errno
	}{
		{a, 10, api.MeHare, []int{4, 4, 2}, api.OK},
		{a, 11, api.MeHare, []int{5, 5, 1}, api.OK},
		{[]int{2, 2}, 3, api.MeWebster, nil, api.ErrState},
	} {
		if got, e := paradox.Decided(x.people, x.seats, x.method); !slices.Equal(got, x.want) || e != x.e {
			t.Errorf("Decided(%v, %d, %d): %v, error %d", x.people, x.seats, x.method, got, e)
		}
	}
	if got, e := paradox.House(a, api.MeHare, 10, 12); !slices.Equal(got, [][2]int{{11, 2}}) || e != api.OK {
		t.Errorf("House by MeHare: %v, error %d", got, e)
	}
	if seats, region, e := paradox.First(a, api.MeHare, 10, 12); seats != 11 || region != 2 || e != api.OK {
		t.Errorf("First by MeHare: %d, %d, error %d", seats, region, e)
	}
	if got, e := paradox.House(a, api.MeHill, 1, 40); len(got) != 0 || e != api.OK {
		t.Errorf("House by MeHill: %v, error %d", got, e)
	}
	if got, e := paradox.House([]int{1}, api.MeHare, 5, 106); got != nil || e != api.ErrArg {
		t.Errorf("House of 102 numbers of seats: %v, error %d", got, e)
	}
	if got, e := paradox.People([]int{1050, 145, 805}, []int{1040, 143, 817}, 20, api.MeHare); !slices.Equal(got, [][2]int{{0, 1}}) || e != api.OK {
		t.Errorf("People: %v, error %d", got, e)
	}
	if got, e := paradox.Arrival([]int{147, 253}, 4, api.MeHare, 132, 1); !slices.Equal(got, []int{0, 1}) || e != api.OK {
		t.Errorf("Arrival by MeHare: %v, error %d", got, e)
	}
	if got, e := paradox.Arrival([]int{147, 253}, 4, api.MeWebster, 132, 1); len(got) != 0 || e != api.OK {
		t.Errorf("Arrival by MeWebster: %v, error %d", got, e)
	}
	if got, e := paradox.Arrival([]int{1, 1}, 2, api.MeHare, 100, 1); got != nil || e != api.ErrNone {
		t.Errorf("Arrival of a large region: %v, error %d", got, e)
	}
}

// P10.1

// checkDecided compares Decided with the second program, and returns its error.
func checkDecided(t *testing.T, people []int, seats, method int) api.Errno {
	t.Helper()
	before := slices.Clone(people)
	want, f := decided(people, seats, method)
	got, e := paradox.Decided(people, seats, method)
	if !slices.Equal(got, want) || e != f || e != api.OK && got != nil {
		t.Errorf("Decided(%v, %d, %d): %v, error %d; want %v, error %d", people, seats, method, got, e, want, f)
	}
	for i := range got {
		got[i] = -7 // which is not to be seen in the census, nor in another result
	}
	unchanged(t, people, before, "Decided")
	if again, _ := paradox.Decided(people, seats, method); !slices.Equal(again, want) {
		t.Errorf("Decided(%v, %d, %d) a second time: %v; want %v", people, seats, method, again, want)
	}
	return e
}

// Worked out by hand.
func TestDecided(t *testing.T) {
	for _, x := range []struct {
		name          string
		people        []int
		seats, method int
		want          []int
		e             api.Errno
	}{
		{"one region", []int{7}, 5, api.MeHare, []int{5}, api.OK},
		{"one region and one seat, by a divisor", []int{7}, 1, api.MeAdams, []int{1}, api.OK},
		{"all seats there can be", []int{api.MaxPeople}, 1000, api.MeHare, []int{1000}, api.OK},
		{"all seats there can be, by a divisor", []int{1}, 1000, api.MeHill, []int{1000}, api.OK},
		{"quotients 9/5, 1, 3/5: by MeHare", []int{9, 5, 3}, 3, api.MeHare, []int{2, 1, 0}, api.OK},
		{"the quota 5: by MeDroop", []int{9, 5, 3}, 3, api.MeDroop, []int{2, 1, 0}, api.OK},
		{"the quota 17/5, quotients 45/17, 25/17, 15/17: by MeHagenbach", []int{9, 5, 3}, 4, api.MeHagenbach, []int{2, 1, 1}, api.OK},
		{"the quota 17/6, quotients 54/17, 30/17, 18/17 are 5 seats: by MeImperiali", []int{9, 5, 3}, 4, api.MeImperiali, nil, api.ErrFail},
		{"ranks 9, 5, 9/2, and 3 = 9/3: by MeJefferson", []int{9, 5, 3}, 3, api.MeJefferson, []int{2, 1, 0}, api.OK},
		{"the same, and two of 3 for one seat", []int{9, 5, 3}, 4, api.MeJefferson, nil, api.ErrState},
		{"the same, and two of 3 for two seats", []int{9, 5, 3}, 5, api.MeJefferson, []int{3, 1, 1}, api.OK},
		{"by MeAdams first a seat each", []int{9, 5, 3}, 4, api.MeAdams, []int{2, 1, 1}, api.OK},
		{"by MeDean", []int{9, 5, 3}, 4, api.MeDean, []int{2, 1, 1}, api.OK},
		{"by MeHill", []int{9, 5, 3}, 4, api.MeHill, []int{2, 1, 1}, api.OK},
		{"ranks 18, 10, 6, 6: by MeWebster", []int{9, 5, 3}, 3, api.MeWebster, nil, api.ErrState},
		{"the same, and one seat more", []int{9, 5, 3}, 4, api.MeWebster, []int{2, 1, 1}, api.OK},
		{"regions without people", []int{0, 6, 0, 2, 0}, 4, api.MeHare, []int{0, 3, 0, 1, 0}, api.OK},
		{"regions without people, by a divisor", []int{0, 6, 0, 2, 0}, 4, api.MeAdams, []int{0, 3, 0, 1, 0}, api.OK},
		{"one seat for two equal regions", []int{4, 4}, 1, api.MeHare, nil, api.ErrState},
		{"one seat for two equal regions, by a divisor", []int{4, 4}, 1, api.MeJefferson, nil, api.ErrState},
		{"one seat for two equal regions, each with a quota", []int{4, 4}, 1, api.MeHagenbach, nil, api.ErrFail},
		{"five seats for one person: four are left, and there is one region", []int{1}, 5, api.MeDroop, nil, api.ErrFail},
		{"60 regions with a seat each", repeated(5, 60), 60, api.MeHare, repeated(1, 60), api.OK},
		{"60 regions with a seat each, by a divisor", repeated(api.MaxPeople, 60), 60, api.MeWebster, repeated(1, 60), api.OK},
		{"60 regions, and 1000 seats", repeated(api.MaxPeople, 60), 1000, api.MeHill, nil, api.ErrState},
	} {
		if got, e := paradox.Decided(x.people, x.seats, x.method); !slices.Equal(got, x.want) || e != x.e {
			t.Errorf("%s: %v, error %d; want %v, error %d", x.name, got, e, x.want, x.e)
		}
	}
}

func TestDecidedOfFewRegions(t *testing.T) {
	ends := map[api.Errno]int{}
	for regions := 1; regions <= 4; regions++ {
		for _, people := range censuses(regions, []int{0, 6, 5, 4, 2}[regions]) {
			for seats := 1; seats <= 8; seats++ {
				for _, method := range methods {
					ends[checkDecided(t, people, seats, method)]++
				}
			}
		}
	}
	if ends[api.OK] < 5000 || ends[api.ErrState] < 1000 || ends[api.ErrFail] < 500 || len(ends) != 3 {
		t.Errorf("the test is wrong: %v", ends)
	}
}

func TestDecidedAtRandom(t *testing.T) {
	r := random{rand.New(rand.NewSource(1))}
	ends := map[api.Errno]int{}
	for range 4000 {
		people := r.census(1+r.Intn([]int{4, 10, 60}[r.Intn(3)]), []int{3, 30, 1000, api.MaxPeople}[r.Intn(4)])
		seats := 1 + r.Intn([]int{8, 80, 1000}[r.Intn(3)])
		ends[checkDecided(t, people, seats, methods[r.Intn(9)])]++
	}
	if ends[api.OK] < 1000 || ends[api.ErrState] < 300 || ends[api.ErrFail] < 50 || len(ends) != 3 {
		t.Errorf("the test is wrong: %v", ends)
	}
}

func TestErrorsOfDecided(t *testing.T) {
	check := func(people []int, seats, method int, want api.Errno) {
		t.Helper()
		if got, e := paradox.Decided(people, seats, method); got != nil || e != want {
			t.Errorf("Decided(%v, %d, %d): %v, error %d; want the error %d", people, seats, method, got, e, want)
		}
	}
	for _, people := range invalid {
		for _, seats := range []int{1, 0, 1001} {
			for _, method := range []int{api.MeHare, api.MeWebster, 0, 5, 16} {
				check(people, seats, method, api.ErrQuota)
			}
		}
	}
	// By MeHagenbach one seat of two equal regions fails, and by MeHare they tie for it.
	for _, people := range [][]int{{1}, {4, 4}, repeated(1, 60)} {
		for _, seats := range []int{math.MinInt, -1, 0, 1001, math.MaxInt} {
			for _, method := range append(noMethods, methods...) {
				check(people, seats, method, api.ErrArg)
			}
		}
		for _, method := range noMethods {
			check(people, 1, method, api.ErrArg)
			check(people, 1000, method, api.ErrArg)
		}
	}
}
