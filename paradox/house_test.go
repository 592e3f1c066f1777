package paradox_test

import (
	"math"
	"math/rand"
	"slices"
	"testing"

	"wardmote/api"
	"wardmote/paradox"
)

// P10.2

// checkHouse compares House and First with the second program, and returns what House says.
func checkHouse(t *testing.T, people []int, method, from, to int) [][2]int {
	t.Helper()
	before := slices.Clone(people)
	want := shrunk(people, method, from, to)
	got, e := paradox.House(people, method, from, to)
	if !slices.Equal(got, want) || e != api.OK {
		t.Errorf("House(%v, %d, %d, %d): %v, error %d; want %v", people, method, from, to, got, e, want)
	}
	seats, region, e := paradox.First(people, method, from, to)
	first, f := [2]int{}, api.ErrNone
	if len(want) > 0 {
		first, f = want[0], api.OK
	}
	if [2]int{seats, region} != first || e != f {
		t.Errorf("First(%v, %d, %d, %d): %d, %d, error %d; want %v, error %d", people, method, from, to, seats, region, e, first, f)
	}
	unchanged(t, people, before, "House, or First,")
	return want
}

// Worked out by hand.
func TestHouse(t *testing.T) {
	for _, x := range []struct {
		name             string
		people           []int
		method, from, to int
		want             [][2]int
	}{
		{"1 1 1 before 2 2 0", []int{3, 3, 1}, api.MeHare, 3, 4, [][2]int{{4, 2}}},
		{"one number of seats: nothing to compare", []int{3, 3, 1}, api.MeHare, 4, 4, nil},
		{"one number of seats, the least one", []int{3, 3, 1}, api.MeHare, 1, 1, nil},
		{"one number of seats, the greatest one", []int{3, 3, 1}, api.MeHare, 1000, 1000, nil},
		{"2 2 0 before 2 2 1", []int{3, 3, 1}, api.MeHare, 4, 5, nil},
		{"2 2 1, 3 3 0, 3 3 1, 4 4 0: losses at the first and at the last number", []int{6, 6, 1}, api.MeHare, 5, 8, [][2]int{{6, 2}, {8, 2}}},
		{"the same, from 6 on: what is lost at 6 is lost against 5", []int{6, 6, 1}, api.MeHare, 6, 8, [][2]int{{8, 2}}},
		{"the same, up to 7", []int{6, 6, 1}, api.MeHare, 5, 7, [][2]int{{6, 2}}},
		{"the same, 6 and 7", []int{6, 6, 1}, api.MeHare, 6, 7, nil},
		{"again and again: 13 seats more are 6, 6 and 1 more", []int{6, 6, 1}, api.MeHare, 1, 40, [][2]int{{6, 2}, {8, 2}, {19, 2}, {21, 2}, {32, 2}, {34, 2}}},
		{"the region that loses stands in front", []int{1, 6, 6}, api.MeHare, 5, 6, [][2]int{{6, 0}}},
		{"1 1 1 2 1 before 2 0 2 3 0: two lose at once", []int{3, 1, 3, 5, 1}, api.MeHare, 6, 7, [][2]int{{7, 1}, {7, 4}}},
		{"1 1 1 1 1 before 2 0 2 0 2, by MeHagenbach", []int{5, 2, 5, 2, 5}, api.MeHagenbach, 5, 6, [][2]int{{6, 1}, {6, 3}}},
		{"2 2 1 2 1 before 3 3 0 3 0, by MeDroop", []int{11, 11, 2, 11, 2}, api.MeDroop, 8, 9, [][2]int{{9, 2}, {9, 4}}},
		{"3 3 1 3 1 before 4 4 0 4 0, by MeImperiali", []int{9, 9, 2, 9, 2}, api.MeImperiali, 11, 12, [][2]int{{12, 2}, {12, 4}}},
		{"3 1 1, a tie, 5 2 0", []int{8, 3, 1}, api.MeHare, 5, 7, nil},
		{"6 3 1, no award, 8 4 0", []int{16, 8, 1}, api.MeDroop, 10, 12, nil},
		{"3 3 1 3, no award, 4 4 0 4", []int{18, 18, 4, 18}, api.MeImperiali, 10, 12, nil},
		{"ties at all odd numbers", []int{4, 4}, api.MeHare, 1, 101, nil},
		{"ties at all numbers", repeated(4, 60), api.MeWebster, 1, 59, nil},
		{"no award at all", []int{1, 1}, api.MeDroop, 5, 105, nil},
		{"one region", []int{1}, api.MeHare, 900, 1000, nil},
		{"101 numbers of seats", []int{6, 6, 1}, api.MeJefferson, 900, 1000, nil},
		{"101 numbers of seats, the first ones", []int{6, 6, 1}, api.MeAdams, 1, 101, nil},
		{"a region without people", []int{3, 0, 3, 1}, api.MeHare, 3, 4, [][2]int{{4, 3}}},
	} {
		if got := checkHouse(t, x.people, x.method, x.from, x.to); !slices.Equal(got, x.want) {
			t.Errorf("%s: %v; want %v", x.name, got, x.want)
		}
	}
}

// The allocations behind the losses of TestHouse, and behind what is none.
func TestHousesByHand(t *testing.T) {
	for _, x := range []struct {
		people        []int
		seats, method int
		want          []int
	}{
		{[]int{6, 6, 1}, 5, api.MeHare, []int{2, 2, 1}},    // 30/13 = 2 4/13, 5/13
		{[]int{6, 6, 1}, 6, api.MeHare, []int{3, 3, 0}},    // 36/13 = 2 10/13, 6/13
		{[]int{6, 6, 1}, 7, api.MeHare, []int{3, 3, 1}},    // 42/13 = 3 3/13, 7/13
		{[]int{6, 6, 1}, 8, api.MeHare, []int{4, 4, 0}},    // 48/13 = 3 9/13, 8/13
		{[]int{8, 3, 1}, 5, api.MeHare, []int{3, 1, 1}},    // 3 4/12, 1 3/12, 5/12
		{[]int{8, 3, 1}, 6, api.MeHare, nil},               // 4, 1 6/12, 6/12
		{[]int{8, 3, 1}, 7, api.MeHare, []int{5, 2, 0}},    // 4 8/12, 1 9/12, 7/12
		{[]int{16, 8, 1}, 10, api.MeDroop, []int{6, 3, 1}}, // the quota 3: 5 1/3, 2 2/3, 1/3, and 3 seats are left
		{[]int{16, 8, 1}, 11, api.MeDroop, nil},            // the same, and 4 are left
		{[]int{16, 8, 1}, 12, api.MeDroop, []int{8, 4, 0}}, // the quota 2: 8, 4, 1/2
		{[]int{5, 2, 5, 2, 5}, 6, api.MeHagenbach, []int{2, 0, 2, 0, 2}},
		{[]int{3, 1, 3, 5, 1}, 6, api.MeHare, []int{1, 1, 1, 2, 1}}, // 1 5/13, 6/13, 1 5/13, 2 4/13, 6/13
		{[]int{3, 1, 3, 5, 1}, 7, api.MeHare, []int{2, 0, 2, 3, 0}}, // 1 8/13, 7/13, 1 8/13, 2 9/13, 7/13
	} {
		if got, _ := paradox.Decided(x.people, x.seats, x.method); !slices.Equal(got, x.want) {
			t.Errorf("%d seats for %v by %d: %v; want %v", x.seats, x.people, x.method, got, x.want)
		}
	}
}

func TestHouseOfFewRegions(t *testing.T) {
	losses := map[int]int{}
	for _, people := range slices.Concat(censuses(1, 9), censuses(2, 9), censuses(3, 7), censuses(4, 3)) {
		for _, method := range methods {
			losses[method] += len(checkHouse(t, people, method, 1, 20))
		}
	}
	if losses[api.MeHare] < 100 || losses[api.MeDroop] < 2 || losses[api.MeHagenbach] < 10 {
		t.Errorf("the test is wrong: %v", losses)
	}
}

// divided returns a census with some large regions, and some small ones, many of which are equal, and lose seats at once.
func (r random) divided(regions, most int) []int {
	sizes := []int{1 + r.Intn(most), 1 + r.Intn(most), 1 + r.Intn(most/4+1), 1 + r.Intn(most/4+1)}
	var people []int
	for range regions {
		people = append(people, sizes[r.Intn(4)])
	}
	return people
}

func TestHouseAtRandom(t *testing.T) {
	r := random{rand.New(rand.NewSource(2))}
	losses, none, several := map[int]int{}, 0, 0
	for range 1500 {
		regions, most := 3+r.Intn([]int{4, 10, 58}[r.Intn(3)]), []int{10, 100, api.MaxPeople}[r.Intn(3)]
		people := r.census(regions, most)
		if r.Intn(2) == 0 {
			people = r.divided(regions, most)
		}
		method := quotas[r.Intn(4)]
		if r.Intn(5) == 0 {
			method = divisors[r.Intn(5)]
		}
		from := 1 + r.Intn([]int{10, 100, 900}[r.Intn(3)])
		found := checkHouse(t, people, method, from, from+r.Intn(101))
		losses[method] += len(found)
		if len(found) == 0 {
			none++
		}
		for i := 1; i < len(found); i++ {
			if found[i][0] == found[i-1][0] {
				several++
			}
		}
	}
	if losses[api.MeHare] < 200 || losses[api.MeDroop] < 100 || losses[api.MeHagenbach] < 200 || losses[api.MeImperiali] < 50 || none < 200 || several < 20 {
		t.Errorf("the test is wrong: %v, %d times none, %d times several at once", losses, none, several)
	}
}

// All houses that can be compared at once, with as many regions and seats as there can be.
func TestHouseAtTheLimits(t *testing.T) {
	people := rising(60)
	for i := range people {
		people[i] *= []int{1, 7, 600}[i%3]
	}
	for _, method := range methods {
		found := checkHouse(t, people, method, 900, 1000)
		if method == api.MeHare && len(found) < 10 {
			t.Errorf("the test is wrong: only the losses %v", found)
		}
		checkHouse(t, repeated(api.MaxPeople, 60), method, 1, 101)
	}
}

// What is lost up to some number of seats, and from it on, is all that is lost.
func TestPartsOfHouses(t *testing.T) {
	r := random{rand.New(rand.NewSource(4))}
	for range 300 {
		people := r.census(3+r.Intn(6), 50)
		method := quotas[r.Intn(4)]
		from := 1 + r.Intn(60)
		middle := from + r.Intn(40)
		to := middle + r.Intn(40)
		low, e := paradox.House(people, method, from, middle)
		high, f := paradox.House(people, method, middle, to)
		all, g := paradox.House(people, method, from, to)
		if !slices.Equal(slices.Concat(low, high), all) || e != api.OK || f != api.OK || g != api.OK {
			t.Errorf("House(%v, %d, %d, %d): %v, error %d; up to %d: %v, error %d; from it on: %v, error %d",
				people, method, from, to, all, g, middle, low, e, high, f)
		}
	}
}

func TestErrorsOfHouse(t *testing.T) {
	check := func(people []int, method, from, to int, want api.Errno) {
		t.Helper()
		if got, e := paradox.House(people, method, from, to); got != nil || e != want {
			t.Errorf("House(%v, %d, %d, %d): %v, error %d; want the error %d", people, method, from, to, got, e, want)
		}
		if seats, region, e := paradox.First(people, method, from, to); seats != 0 || region != 0 || e != want {
			t.Errorf("First(%v, %d, %d, %d): %d, %d, error %d; want the error %d", people, method, from, to, seats, region, e, want)
		}
	}
	spans := [][2]int{
		{0, 1}, {0, 0}, {0, 100}, {-1, 5}, {math.MinInt, 5}, {math.MinInt, math.MaxInt}, {1, 0}, {1, -1}, {5, 4}, {5, 1}, {1000, 999}, {1000, 1},
		{5, math.MinInt}, {math.MaxInt, math.MinInt}, {901, 1001}, {1000, 1001}, {1001, 1001}, {1001, 1000}, {5, math.MaxInt},
		{math.MaxInt, math.MaxInt}, {1, 102}, {5, 106}, {899, 1000}, {1, 1000}, {1, 1001}, {0, 101},
	}
	for _, span := range spans {
		for _, people := range invalid {
			check(people, api.MeHare, span[0], span[1], api.ErrQuota)
			check(people, 0, span[0], span[1], api.ErrQuota)
		}
		for _, method := range append(noMethods, methods...) {
			check([]int{6, 6, 1}, method, span[0], span[1], api.ErrArg)
			check([]int{1}, method, span[0], span[1], api.ErrArg)
		}
	}
	for _, people := range invalid {
		check(people, api.MeHare, 1, 8, api.ErrQuota)
		check(people, 5, 1, 8, api.ErrQuota)
	}
	for _, method := range noMethods {
		check([]int{6, 6, 1}, method, 1, 8, api.ErrArg)
		check([]int{6, 6, 1}, method, 3, 3, api.ErrArg)
	}
}
