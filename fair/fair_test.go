package fair_test

import (
	"math/rand"
	"slices"
	"testing"

	"wardmote/api"
	"wardmote/fair"
)

var c = []int{9, 5, 3}

// The chapter's examples.
func TestExamples(t *testing.T) {
	for _, x := range []struct {
		people, won []int
		want        [][2]int
	}{
		{c, []int{4, 1, 0}, [][2]int{{0, 1}}},
		{c, []int{3, 1, 1}, nil},
		{[]int{8, 1, 1}, []int{2, 2, 1}, [][2]int{{0, -1}, {1, 1}}},
	} {
		if got, e := fair.Breaks(x.people, x.won); !slices.Equal(got, x.want) || e != api.OK {
			t.Errorf("Breaks(%v, %v): %v, error %d", x.people, x.won, got, e)
		}
	}
	for _, x := range []struct {
		method, t int
		want      string
	}{
		{api.MeWebster, 1, "1/45"}, {api.MeDean, 1, "1/2"}, {api.MeHill, 1, "1/9"}, {api.MeAdams, 1, "1/5"}, {api.MeJefferson, 1, "1/9"},
	} {
		if got, e := fair.Measure(x.method, 9, 2, 5, x.t); text(got) != x.want || e != api.OK {
			t.Errorf("Measure by %d: %s, error %d", x.method, text(got), e)
		}
	}
	if got, e := fair.Measure(api.MeHill, 9, 2, 5, 0); got != (api.Share{}) || e != api.ErrZero {
		t.Errorf("Measure by MeHill of no seats: %v, error %d", got, e)
	}
	if got, e := fair.Helps(api.MeWebster, 9, 3, 3, 0); !got || e != api.OK {
		t.Errorf("Helps by MeWebster: %v, error %d", got, e)
	}
	if got, e := fair.Helps(api.MeJefferson, 9, 3, 3, 0); got || e != api.OK {
		t.Errorf("Helps by MeJefferson: %v, error %d", got, e)
	}
	if got, e := fair.Unstable(c, []int{3, 1, 0}, api.MeWebster); !slices.Equal(got, [][2]int{{0, 2}}) || e != api.OK {
		t.Errorf("Unstable: %v, error %d", got, e)
	}
	if got, e := fair.Bias(c, []int{2, 1, 1}, 1); text(got) != "-1/3" || e != api.OK {
		t.Errorf("Bias: %s, error %d", text(got), e)
	}
}

// P9.1

// checkBreaks compares Breaks with the second program, and returns what it says.
func checkBreaks(t *testing.T, people, won []int) [][2]int {
	t.Helper()
	before, beside := slices.Clone(people), slices.Clone(won)
	want := broken(people, won)
	if got, e := fair.Breaks(people, won); !slices.Equal(got, want) || e != api.OK {
		t.Errorf("Breaks(%v, %v): %v, error %d; want %v", people, won, got, e, want)
	}
	unchanged(t, people, before, "Breaks")
	unchanged(t, won, beside, "Breaks")
	return want
}

// Worked out by hand.
func TestBreaks(t *testing.T) {
	for _, x := range []struct {
		name        string
		people, won []int
		want        [][2]int
	}{
		{"one region", []int{7}, []int{1}, nil},
		{"one region, and all seats", []int{1}, []int{1000}, nil},
		{"quotients 3, 2, 1 as they are", []int{3, 2, 1}, []int{3, 2, 1}, nil},
		{"one seat beside whole quotients, up and down", []int{3, 2, 1}, []int{4, 1, 1}, [][2]int{{0, 1}, {1, -1}}},
		{"one seat beside whole quotients, down and up", []int{3, 2, 1}, []int{2, 2, 2}, [][2]int{{0, -1}, {2, 1}}},
		{"quotients 5/2, 3/2, both down and both up", []int{5, 3}, []int{2, 2}, nil},
		{"quotients 5/2, 3/2, up and down", []int{5, 3}, []int{3, 1}, nil},
		{"quotients 5/2, 3/2, one seat too many", []int{5, 3}, []int{4, 0}, [][2]int{{0, 1}, {1, -1}}},
		{"quotients 5/2, 3/2, one seat too few", []int{5, 3}, []int{1, 3}, [][2]int{{0, -1}, {1, 1}}},
		{"a quotient that is little less than 1: 999/1000", []int{1, 999}, []int{0, 1}, nil},
		{"a quotient that is little more than 1: 1998/1001 and 4/1001", []int{999, 2}, []int{2, 0}, nil},
		{"the quotient 10^9 * 1000 / (10^9 + 1), all seats", []int{api.MaxPeople, 1}, []int{1000, 0}, nil},
		{"the same, one less", []int{api.MaxPeople, 1}, []int{999, 1}, nil},
		{"the same, two less", []int{api.MaxPeople, 1}, []int{998, 2}, [][2]int{{0, -1}, {1, 1}}},
		{"many seats too few and too many", []int{1, 1}, []int{1000, 0}, [][2]int{{0, 1}, {1, -1}}},
		{"a region without people, without seats", []int{0, 4}, []int{0, 2}, nil},
		{"a region without people, with a seat", []int{0, 4}, []int{1, 2}, [][2]int{{0, 1}, {1, -1}}},
		{"all seats to a region without people", []int{0, 4}, []int{3, 0}, [][2]int{{0, 1}, {1, -1}}},
		{"a quotient below 1, two seats", []int{1, 9, 10}, []int{2, 1, 1}, [][2]int{{0, 1}, {2, -1}}},
		{"60 regions, and one seat", repeated(1, 60), with(repeated(0, 59), 1), nil},
		{"60 regions, and two seats of one", repeated(1, 60), with(repeated(0, 59), 2), [][2]int{{59, 1}}},
		{"60 regions, with quotients 50/3", repeated(api.MaxPeople, 60), append(repeated(17, 40), repeated(16, 20)...), nil},
		{"60 regions, with quotients 50/3, one of them with 15 and one with 18", repeated(api.MaxPeople, 60), append([]int{18, 15}, append(repeated(17, 39), repeated(16, 19)...)...), [][2]int{{0, 1}, {1, -1}}},
	} {
		if got := checkBreaks(t, x.people, x.won); !slices.Equal(got, x.want) {
			t.Errorf("%s: %v; want %v", x.name, got, x.want)
		}
	}
}

func TestBreaksOfFewRegions(t *testing.T) {
	ends := map[int]int{}
	for _, x := range append(small(), limits...) {
		ends[len(checkBreaks(t, x[0], x[1]))]++
	}
	for n := range 4 {
		if ends[n] < 50 {
			t.Errorf("the test is wrong: only %d times %d regions that break the rule", ends[n], n)
		}
	}
}

func TestBreaksAtRandom(t *testing.T) {
	r := random{rand.New(rand.NewSource(1))}
	below, above, none := 0, 0, 0
	for range 10000 {
		people, won := r.allocation()
		found := checkBreaks(t, people, won)
		if len(found) == 0 {
			none++
		}
		for _, x := range found {
			if x[1] < 0 {
				below++
			} else {
				above++
			}
		}
	}
	if below < 1000 || above < 1000 || none < 500 {
		t.Errorf("the test is wrong: %d from below, %d from above, %d times none", below, above, none)
	}
}

func TestErrorsOfBreaks(t *testing.T) {
	for _, x := range invalid {
		if got, e := fair.Breaks(x.people, x.won); got != nil || e != x.e {
			t.Errorf("%s: Breaks is %v, error %d; want the error %d", x.name, got, e, x.e)
		}
	}
}
