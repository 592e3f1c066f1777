package fair_test

import (
	"math"
	"math/rand"
	"slices"
	"testing"

	"wardmote/api"
	"wardmote/fair"
)

// P9.4

// checkBias compares Bias with the second program, and returns the text of the bias, or that there is none.
func checkBias(t *testing.T, people, won []int, n int) string {
	t.Helper()
	before, beside := slices.Clone(people), slices.Clone(won)
	got, e := fair.Bias(people, won, n)
	unchanged(t, people, before, "Bias")
	unchanged(t, won, beside, "Bias")
	want := biased(people, won, n)
	if want == nil {
		if got != (api.Share{}) || e != api.ErrZero {
			t.Errorf("Bias(%v, %v, %d): %v, error %d; want ErrZero", people, won, n, got, e)
		}
		return "none"
	}
	if text(got) != want.RatString() || e != api.OK {
		t.Errorf("Bias(%v, %v, %d): %s, error %d; want %s", people, won, n, text(got), e, want.RatString())
	}
	return want.RatString()
}

// Worked out by hand.
func TestBias(t *testing.T) {
	for _, x := range []struct {
		name        string
		people, won []int
		n           int
		want        string
	}{
		{"two equal regions with equal seats", []int{4, 4}, []int{3, 3}, 1, "0"},
		{"two equal regions, of which the lower one counts as larger", []int{4, 4}, []int{3, 2}, 1, "1/2"},
		{"the same, and it has fewer seats", []int{4, 4}, []int{2, 3}, 1, "-1/3"},
		{"the larger one has more for each person", []int{6, 2}, []int{9, 2}, 1, "1/2"},
		{"the larger one has less for each person", []int{6, 2}, []int{9, 4}, 1, "-1/4"},
		{"the larger one stands behind", []int{2, 6}, []int{2, 9}, 1, "1/2"},
		{"the larger one has nothing", []int{2, 6}, []int{2, 0}, 1, "-1"},
		{"the smaller one has nothing", []int{2, 6}, []int{0, 9}, 1, "none"},
		{"all seats in the middle", []int{2, 4, 6}, []int{0, 5, 0}, 1, "none"},
		{"the region in the middle counts on neither side", []int{2, 4, 6}, []int{1, 900, 3}, 1, "0"},
		{"two and two of five", []int{5, 4, 3, 2, 1}, []int{5, 4, 100, 1, 1}, 2, "1/2"},
		{"one and one of five", []int{5, 4, 3, 2, 1}, []int{5, 4, 100, 1, 1}, 1, "0"},
		{"two and two of four, in another order", []int{1, 5, 2, 4}, []int{1, 5, 1, 4}, 2, "1/2"},
		{"three equal regions: the first and the last one", []int{3, 3, 3}, []int{4, 7, 1}, 1, "3"},
		{"equal regions at the border: the lower one counts as larger", []int{3, 9, 3, 3, 1, 3}, []int{8, 9, 1, 1, 1, 4}, 2, "2/15"},
		{"a region without people at the end is not counted", []int{6, 2, 0}, []int{9, 2, 500}, 1, "1/2"},
		{"a region without people in front is not counted", []int{0, 6, 2}, []int{500, 9, 2}, 1, "1/2"},
		{"regions without people between others", []int{0, 2, 0, 6, 0}, []int{1, 2, 0, 9, 0}, 1, "1/2"},
		{"the smallest one has no seat, but one without people has", []int{2, 6, 0}, []int{0, 9, 7}, 1, "none"},
		{"the most people, and one person", []int{api.MaxPeople, 1}, []int{999, 1}, 1, "-999999001/1000000000"},
		{"one person with all but one seat", []int{api.MaxPeople, 1}, []int{1, 999}, 1, "-998999999999/999000000000"},
		{"30 and 30 of 60", append(repeated(api.MaxPeople, 30), repeated(api.MaxPeople-1, 30)...), append(repeated(17, 30), repeated(16, 30)...), 30, "999999983/16000000000"},
	} {
		if got := checkBias(t, x.people, x.won, x.n); got != x.want {
			t.Errorf("%s: %s; want %s", x.name, got, x.want)
		}
	}
}

// withPeople returns how many regions have people.
func withPeople(people []int) int {
	return len(people) - len(slices.DeleteFunc(slices.Clone(people), func(n int) bool { return n > 0 }))
}

// checkBiases compares Bias for all numbers, and beyond them, and counts what becomes of it.
func checkBiases(t *testing.T, people, won []int, signs map[byte]int) {
	t.Helper()
	most := withPeople(people) / 2
	for n := 1; n <= most; n++ {
		signs[checkBias(t, people, won, n)[0]]++
	}
	for _, n := range []int{math.MinInt, -1, 0, most + 1, most + 2, len(people), 61, math.MaxInt/2 + 1, math.MaxInt} {
		if got, e := fair.Bias(people, won, n); (n < 1 || n > most) && (got != (api.Share{}) || e != api.ErrArg) {
			t.Errorf("Bias(%v, %v, %d): %v, error %d", people, won, n, got, e)
		}
	}
}

func TestBiasOfFewRegions(t *testing.T) {
	signs := map[byte]int{}
	for _, x := range append(small(), limits...) {
		checkBiases(t, x[0], x[1], signs)
	}
	for _, sign := range "-012n" {
		if signs[byte(sign)] < 50 {
			t.Errorf("the test is wrong: only %d biases that begin with %c", signs[byte(sign)], sign)
		}
	}
}

func TestBiasAtRandom(t *testing.T) {
	r := random{rand.New(rand.NewSource(5))}
	signs := map[byte]int{}
	for range 2000 {
		people, won := r.allocation()
		checkBiases(t, people, won, signs)
	}
	if signs['-'] < 1000 || signs['1'] < 500 || signs['0'] < 50 || signs['n'] < 50 {
		t.Errorf("the test is wrong: %v", signs)
	}
}

func TestErrorsOfBias(t *testing.T) {
	for _, x := range invalid {
		for _, n := range []int{1, 0} {
			if got, e := fair.Bias(x.people, x.won, n); got != (api.Share{}) || e != x.e {
				t.Errorf("%s: Bias is %v, error %d; want the error %d", x.name, got, e, x.e)
			}
		}
	}
	// ErrArg comes ahead of ErrZero.
	if got, e := fair.Bias([]int{2, 6, 0, 0}, []int{0, 9, 0, 0}, 2); got != (api.Share{}) || e != api.ErrArg {
		t.Errorf("Bias of two regions with people, and two without: %v, error %d", got, e)
	}
}
