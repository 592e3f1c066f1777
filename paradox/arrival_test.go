package paradox_test

import (
	"math"
	"math/rand"
	"slices"
	"testing"

	"wardmote/api"
	"wardmote/paradox"
)

// P10.4

// checkArrival compares Arrival with the second program, for arguments that have their limits, and returns what it says.
func checkArrival(t *testing.T, people []int, seats, method, newcomer, more int) ([]int, api.Errno) {
	t.Helper()
	room := append(slices.Clone(people), -9)
	given := room[:len(people)]
	want, f := arrived(people, seats, method, newcomer, more)
	got, e := paradox.Arrival(given, seats, method, newcomer, more)
	if !slices.Equal(got, want) || e != f || e != api.OK && got != nil {
		t.Errorf("Arrival(%v, %d, %d, %d, %d): %v, error %d; want %v, error %d", people, seats, method, newcomer, more, got, e, want, f)
	}
	// Nor is anything written behind the census, where its memory goes on.
	unchanged(t, room, with(people, -9), "Arrival")
	return want, f
}

// Worked out by hand.
func TestArrival(t *testing.T) {
	for _, x := range []struct {
		name                          string
		people                        []int
		seats, method, newcomer, more int
		want                          []int
		e                             api.Errno
	}{
		{"1 3 before 2 2 1", []int{147, 253}, 4, api.MeHare, 132, 1, []int{0, 1}, api.OK},
		{"the same, by a divisor: 1 3 before 1 3 1", []int{147, 253}, 4, api.MeWebster, 132, 1, nil, api.OK},
		{"the same, with a region without people", []int{147, 0, 253}, 4, api.MeHare, 132, 1, []int{0, 2}, api.OK},
		{"1 1 1 2 before 0 0 2 3 2: two down and two up", []int{4, 4, 11, 18}, 5, api.MeHare, 11, 2, []int{0, 1, 2, 3}, api.OK},
		{"1 0 1 1 1 before 0 0 0 2 2 1: one does not change", []int{6, 2, 6, 18, 18}, 4, api.MeHare, 8, 1, []int{0, 2, 3, 4}, api.OK},
		{"3 0 0 3 before 2 1 1 2 1, by MeImperiali", []int{19, 6, 6, 19}, 6, api.MeImperiali, 9, 1, []int{0, 1, 2, 3}, api.OK},
		{"4 4 1 0 before 3 3 2 1 4, by MeDroop", []int{15, 15, 6, 2}, 9, api.MeDroop, 19, 4, []int{0, 1, 2, 3}, api.OK},
		{"1 0 2 0 2 before 1 1 1 1 1 1, by MeHagenbach", []int{12, 8, 20, 8, 20}, 5, api.MeHagenbach, 18, 1, []int{1, 2, 3, 4}, api.OK},
		{"nothing changes: 3 1 before 3 1 2", []int{6, 2}, 4, api.MeHare, 4, 2, nil, api.OK},
		{"the newcomer gets three seats, and not one", []int{1, 1}, 2, api.MeHare, 100, 1, nil, api.ErrNone},
		{"the newcomer gets all three, and not two", []int{1}, 1, api.MeHare, 100, 2, nil, api.ErrNone},
		{"the newcomer gets no seat, and not one", []int{100, 100}, 2, api.MeHare, 1, 1, nil, api.ErrState},
		{"the newcomer gets no seat, and the first one gets two", []int{101, 100}, 2, api.MeHare, 1, 1, nil, api.ErrNone},
		{"the newcomer gets a seat, and not two", []int{6, 2}, 4, api.MeHare, 2, 2, nil, api.ErrNone},
		{"one person, who gets a seat by MeAdams", []int{4, 4}, 2, api.MeAdams, 1, 1, nil, api.OK},
		{"one person, beside the most people", []int{api.MaxPeople}, 999, api.MeAdams, 1, 1, nil, api.OK},
		{"the most people, and the most seats", []int{1}, 1, api.MeAdams, api.MaxPeople, 999, nil, api.OK},
		{"the most people, and the most seats, which are not all that they get", []int{1}, 1, api.MeHare, api.MaxPeople, 999, nil, api.ErrNone},
		{"the most people for each", []int{api.MaxPeople}, 500, api.MeHare, api.MaxPeople, 500, nil, api.OK},
		{"59 regions", repeated(5, 59), 59, api.MeHare, 5, 1, nil, api.OK},
		{"59 regions, by a divisor", repeated(5, 59), 59, api.MeJefferson, 5, 1, nil, api.OK},
		{"there is a tie before", []int{4, 4}, 3, api.MeHare, 8, 1, nil, api.ErrState},
		{"there is no award before", []int{4, 4}, 1, api.MeHagenbach, 4, 2, nil, api.ErrFail},
		{"there is a tie with the newcomer", []int{4}, 2, api.MeHare, 4, 1, nil, api.ErrState},
		{"there is no award with the newcomer: five seats, and two persons with a quota each", []int{1}, 1, api.MeDroop, 1, 4, nil, api.ErrFail},
	} {
		if got, e := checkArrival(t, x.people, x.seats, x.method, x.newcomer, x.more); !slices.Equal(got, x.want) || e != x.e {
			t.Errorf("%s: %v, error %d; want %v, error %d", x.name, got, e, x.want, x.e)
		}
	}
}

// The allocations behind the changes of TestArrival.
func TestArrivalsByHand(t *testing.T) {
	for _, x := range []struct {
		people        []int
		seats, method int
		want          []int
	}{
		{[]int{147, 253}, 4, api.MeHare, []int{1, 3}},                      // 1 47/100, 2 53/100
		{[]int{147, 253, 132}, 5, api.MeHare, []int{2, 2, 1}},              // 1 203/532, 2 201/532, 1 128/532
		{[]int{4, 4, 11, 18}, 5, api.MeHare, []int{1, 1, 1, 2}},            // 20/37, 20/37, 1 18/37, 2 16/37
		{[]int{4, 4, 11, 18, 11}, 7, api.MeHare, []int{0, 0, 2, 3, 2}},     // 28/48, 28/48, 1 29/48, 2 30/48, 1 29/48
		{[]int{19, 6, 6, 19}, 6, api.MeImperiali, []int{3, 0, 0, 3}},       // the quota 25/4: 3 1/25, 24/25, 24/25, 3 1/25
		{[]int{19, 6, 6, 19, 9}, 7, api.MeImperiali, []int{2, 1, 1, 2, 1}}, // the quota 59/9: 2 53/59, 54/59, 54/59, 2 53/59, 1 22/59
	} {
		if got, _ := paradox.Decided(x.people, x.seats, x.method); !slices.Equal(got, x.want) {
			t.Errorf("%d seats for %v by %d: %v; want %v", x.seats, x.people, x.method, got, x.want)
		}
	}
}

func TestArrivalOfFewRegions(t *testing.T) {
	ends := map[api.Errno]int{}
	for _, people := range slices.Concat(censuses(1, 5), censuses(2, 5), censuses(3, 3)) {
		for _, method := range methods {
			for x := range 6 * 6 * 3 {
				_, e := checkArrival(t, people, 1+x%6, method, 1+x/6%6, 1+x/36)
				ends[e]++
			}
		}
	}
	if ends[api.OK] < 5000 || ends[api.ErrNone] < 5000 || ends[api.ErrState] < 5000 || ends[api.ErrFail] < 5000 || len(ends) != 4 {
		t.Errorf("the test is wrong: %v", ends)
	}
}

// arrival returns a newcomer, who gets so many seats of all that there are, or nearly so, and what is left of them.
func (r random) arrival(people []int, most, seats, method int) (left, newcomer, more int) {
	newcomer = 1 + r.Intn(most)
	all, e := decided(with(people, newcomer), seats, method)
	if e != api.OK {
		return 1 + r.Intn(seats), newcomer, 1
	}
	more = max(1, all[len(people)]+r.Intn(9)/7-r.Intn(9)/7)
	return max(1, seats-more), newcomer, min(more, api.MaxSeats-max(1, seats-more))
}

func TestArrivalAtRandom(t *testing.T) {
	r := random{rand.New(rand.NewSource(8))}
	ends, changes := map[api.Errno]int{}, map[int]int{}
	for range 12000 {
		most := []int{20, 1000, api.MaxPeople}[r.Intn(3)]
		people := r.census(1+r.Intn([]int{4, 10, 59}[r.Intn(3)]), most)
		method := quotas[r.Intn(4)]
		if r.Intn(5) == 0 {
			method = divisors[r.Intn(5)]
		}
		seats, newcomer, more := r.arrival(people, most, 1+r.Intn([]int{20, 300, 300, 999}[r.Intn(4)]), method)
		got, e := checkArrival(t, people, seats, method, newcomer, more)
		ends[e]++
		changes[method] += len(got)
	}
	for _, method := range quotas {
		if changes[method] < 80 {
			t.Errorf("the test is wrong: %v", changes)
		}
	}
	if ends[api.OK] < 2000 || ends[api.ErrNone] < 1000 || ends[api.ErrState] < 500 || ends[api.ErrFail] < 100 {
		t.Errorf("the test is wrong: %v", ends)
	}
}

func TestErrorsOfArrival(t *testing.T) {
	check := func(people []int, seats, method, newcomer, more int, want api.Errno) {
		t.Helper()
		if got, e := paradox.Arrival(people, seats, method, newcomer, more); got != nil || e != want {
			t.Errorf("Arrival(%v, %d, %d, %d, %d): %v, error %d; want the error %d", people, seats, method, newcomer, more, got, e, want)
		}
	}
	// What is wrong with the newcomer, for two seats.
	bad := [][2]int{
		{0, 1}, {-1, 1}, {api.MaxPeople + 1, 1}, {math.MinInt, 1}, {math.MaxInt, 1}, {5, 0}, {5, -1}, {5, 999}, {5, 1000}, {5, 1001},
		{5, math.MinInt}, {5, math.MaxInt}, {0, 0}, {math.MaxInt, math.MaxInt}, {math.MinInt, math.MinInt},
	}
	for _, x := range append(bad, [2]int{5, 1}) {
		for _, people := range invalid {
			check(people, 2, api.MeHare, x[0], x[1], api.ErrQuota)
			check(people, 0, 5, x[0], x[1], api.ErrQuota)
		}
		for _, seats := range []int{math.MinInt, -1, 0, 1001, math.MaxInt} {
			check([]int{3, 3}, seats, api.MeHare, x[0], x[1], api.ErrArg)
		}
		for _, method := range noMethods {
			check([]int{3, 3}, 2, method, x[0], x[1], api.ErrArg)
		}
		// The award of the census itself comes first, then the newcomer.
		check([]int{3, 3, 3}, 2, api.MeHare, x[0], x[1], api.ErrState)
		check([]int{1, 1}, 5, api.MeDroop, x[0], x[1], api.ErrFail)
		check(repeated(1, 60), 2, api.MeWebster, x[0], x[1], api.ErrState)
		check(with(repeated(0, 59), 1), 2, api.MeDroop, x[0], x[1], api.ErrArg)
		check(repeated(1, 60), 60, api.MeWebster, x[0], x[1], api.ErrArg)
	}
	for _, x := range bad {
		for _, method := range methods {
			// By all methods the first two get a seat each.
			check([]int{9, 7, 3, 3, 2}, 2, method, x[0], x[1], api.ErrArg)
			check(append([]int{9, 7, 3, 3, 2}, repeated(0, 54)...), 2, method, x[0], x[1], api.ErrArg)
		}
	}
	// No seats are left for a newcomer.
	check([]int{3}, 1000, api.MeHare, 3, 1, api.ErrArg)
	check([]int{3}, 999, api.MeHare, 3, 2, api.ErrArg)
	check([]int{3}, 1, api.MeHare, 3, 1000, api.ErrArg)
}
