package fair_test

import (
	"math"
	"math/rand"
	"slices"
	"testing"

	"wardmote/api"
	"wardmote/fair"
)

// P9.2

// checkMeasure compares Measure with the second program, and returns the text of the inequality, or that it is infinite.
func checkMeasure(t *testing.T, method, p, s, q, u int) string {
	t.Helper()
	got, e := fair.Measure(method, p, s, q, u)
	want := measured(method, p, s, q, u)
	if want == nil {
		if got != (api.Share{}) || e != api.ErrZero {
			t.Errorf("Measure(%d, %d, %d, %d, %d): %v, error %d; want ErrZero", method, p, s, q, u, got, e)
		}
		return "infinite"
	}
	if text(got) != want.RatString() || e != api.OK {
		t.Errorf("Measure(%d, %d, %d, %d, %d): %s, error %d; want %s", method, p, s, q, u, text(got), e, want.RatString())
	}
	return want.RatString()
}

// Worked out by hand, in the order of the methods.
func TestMeasure(t *testing.T) {
	for _, x := range []struct {
		name       string
		p, s, q, u int
		want       []string
	}{
		{"the first region is favoured", 6, 3, 4, 1, []string{"3/2", "2", "1", "1/4", "1"}},
		{"the second one is", 4, 1, 6, 3, []string{"3/2", "2", "1", "1/4", "1"}},
		{"the one with fewer seats is", 1, 2, 4, 3, []string{"5/4", "5/6", "5/3", "5/4", "5"}},
		{"the same seats per person", 6, 3, 4, 2, []string{"0", "0", "0", "0", "0"}},
		{"the same regions", 5, 2, 5, 2, []string{"0", "0", "0", "0", "0"}},
		{"no seats on both sides", 6, 0, 4, 0, []string{"0", "0", "0", "0", "0"}},
		{"no seats on one side", 6, 2, 4, 0, []string{"2", "infinite", "infinite", "1/3", "4/3"}},
		{"no seats on the other one", 4, 0, 6, 2, []string{"2", "infinite", "infinite", "1/3", "4/3"}},
		{"all seats on both sides", api.MaxPeople, 1000, 1, 1000, []string{"999999999/1000000", "999999999/1000", "999999999", "999999999/1000000", "999999999000"}},
		{"the most people on both sides", api.MaxPeople, 999, api.MaxPeople, 1000, []string{"1", "1000000/999", "1/999", "1/1000000000", "1"}},
		{"the most people, with all seats", 1, 1, api.MaxPeople, 1000, []string{"999999/1000000", "999999", "999999", "999999/1000000", "999999000"}},
		{"the most people, without seats", api.MaxPeople, 0, 1, 1000, []string{"1000", "infinite", "infinite", "1000", "1000000000000"}},
		{"one seat per person, and almost that", api.MaxPeople - 1, 1000, api.MaxPeople, 1000, []string{"1/1000000", "1/1000", "1/999999999", "1/999999999000000", "1000/999999999"}},
	} {
		for i, method := range methods {
			if got := checkMeasure(t, method, x.p, x.s, x.q, x.u); got != x.want[i] {
				t.Errorf("%s, method %d: %s; want %s", x.name, method, got, x.want[i])
			}
		}
	}
}

// checkHelps compares Helps with the second program, and returns what it says.
func checkHelps(t *testing.T, method, p, s, q, u int) bool {
	t.Helper()
	want := helped(method, p, s, q, u)
	if got, e := fair.Helps(method, p, s, q, u); got != want || e != api.OK {
		t.Errorf("Helps(%d, %d, %d, %d, %d): %v, error %d; want %v", method, p, s, q, u, got, e, want)
	}
	return want
}

// Worked out by hand, in the order of the methods.
func TestHelps(t *testing.T) {
	const no, yes = false, true
	for _, x := range []struct {
		name       string
		p, s, q, u int
		want       []bool
	}{
		{"four and no seats of equal regions", 5, 4, 5, 0, []bool{yes, yes, yes, yes, yes}},
		{"two and one seats of equal regions, which are one and two then", 5, 2, 5, 1, []bool{no, no, no, no, no}},
		{"one and no seats of equal regions", 5, 1, 5, 0, []bool{no, no, no, no, no}},
		{"equal seats of equal regions", 5, 2, 5, 2, []bool{no, no, no, no, no}},
		{"fewer seats for the region that has less", 5, 1, 5, 3, []bool{no, no, no, no, no}},
		{"infinite in front, finite behind", 9, 2, 1, 0, []bool{yes, yes, yes, no, no}},
		{"infinite in front and behind", 9, 1, 1, 0, []bool{no, no, no, no, no}},
		{"infinite in front, 0 behind", 9, 2, 9, 0, []bool{yes, yes, yes, yes, yes}},
		{"finite in front, infinite behind", 9, 1, 9, 1, []bool{no, no, no, no, no}},
		{"the last seat, to a region a thousand times as large", 1, 1, 1000, 0, []bool{no, no, no, yes, yes}},
		{"the last seat, to a region a thousand times as large that has one", 1, 1, 1000, 1, []bool{no, no, no, yes, yes}},
		{"999 seats in the end", 1, 1000, api.MaxPeople, 999, []bool{yes, yes, yes, yes, yes}},
		{"one seat beside 999", api.MaxPeople, 1, 1, 999, []bool{no, no, no, no, no}},
	} {
		for i, method := range methods {
			if got := checkHelps(t, method, x.p, x.s, x.q, x.u); got != x.want[i] {
				t.Errorf("%s, method %d: %v; want %v", x.name, method, got, x.want[i])
			}
		}
	}
}

// All pairs of small regions with few seats.
func TestMeasureAndHelpsOfSmallRegions(t *testing.T) {
	ends := map[string]int{}
	for _, x := range lists(4, 6) {
		p, s, q, u := x[0]+1, x[1], x[2]+1, x[3]
		for _, method := range methods {
			before := checkMeasure(t, method, p, s, q, u)
			if s == 0 {
				continue
			}
			behind := checkMeasure(t, method, p, s-1, q, u+1)
			isHelp := checkHelps(t, method, p, s, q, u)
			switch {
			case before == "infinite" && behind == "infinite":
				ends["infinite twice"]++
			case before == "infinite":
				ends["infinite in front"]++
			case behind == "infinite":
				ends["infinite behind"]++
			case before == behind:
				ends["unchanged"]++
			case isHelp:
				ends["less"]++
			default:
				ends["greater"]++
			}
		}
	}
	for _, end := range []string{"infinite twice", "infinite in front", "infinite behind", "unchanged", "less", "greater"} {
		if ends[end] < 50 {
			t.Errorf("the test is wrong: only %d times %s", ends[end], end)
		}
	}
}

func TestMeasureAndHelpsAtRandom(t *testing.T) {
	r := random{rand.New(rand.NewSource(2))}
	helps, not := 0, 0
	for range 20000 {
		method := methods[r.Intn(5)]
		p, q := 1+r.Intn([]int{10, 1000, api.MaxPeople}[r.Intn(3)]), 1+r.Intn([]int{10, 1000, api.MaxPeople}[r.Intn(3)])
		s := r.Intn(1001)
		// Many second sides have almost as many seats per person as the first one.
		u := min(1000, max(0, s*q/p+r.Intn(5)-2))
		if r.Intn(3) == 0 {
			u = r.Intn(1001)
		}
		checkMeasure(t, method, p, s, q, u)
		if s == 0 || u == 1000 {
			continue
		}
		if checkHelps(t, method, p, s, q, u) {
			helps++
		} else {
			not++
		}
	}
	if helps < 3000 || not < 3000 {
		t.Errorf("the test is wrong: %d moves help, %d do not", helps, not)
	}
}

// A move changes nothing; with one person more or less on one side it helps, or makes it worse.
func TestHelpsBesideEqualInequalities(t *testing.T) {
	checked, helps := 0, 0
	for _, x := range lists(4, 9) {
		p, s, q, u := x[0]+1, x[1]+1, x[2]+1, x[3]
		for _, method := range methods {
			before, behind := measured(method, p, s, q, u), measured(method, p, s-1, q, u+1)
			if before == nil || behind == nil || before.Cmp(behind) != 0 {
				continue
			}
			checked++
			for n := -1; n <= 1; n++ {
				// With ten million times as many people, one is very little.
				if checkHelps(t, method, p*10000000+n, s, q*10000000, u) {
					helps++
				}
			}
		}
	}
	if checked < 300 || helps < 300 {
		t.Errorf("the test is wrong: %d moves that change nothing, %d beside them that help", checked, helps)
	}
}

func TestErrorsOfMeasureAndHelps(t *testing.T) {
	type call struct{ method, p, s, q, u int }
	fits := call{api.MeWebster, 9, 3, 3, 0}
	var wrong []call
	for _, method := range noMethods {
		wrong = append(wrong, call{method, 9, 3, 3, 0})
	}
	for _, n := range []int{math.MinInt, -1, 0, api.MaxPeople + 1, math.MaxInt} {
		wrong = append(wrong, call{fits.method, n, fits.s, fits.q, fits.u}, call{fits.method, fits.p, fits.s, n, fits.u})
	}
	for _, n := range []int{math.MinInt, -1, 1001, math.MaxInt} {
		wrong = append(wrong, call{fits.method, fits.p, n, fits.q, fits.u}, call{fits.method, fits.p, fits.s, fits.q, n})
	}
	// ErrArg comes ahead of ErrZero.
	wrong = append(wrong, call{api.MeHill, 9, 1001, 3, 0}, call{api.MeDean, api.MaxPeople + 1, 1, 3, 0}, call{api.MeHill, 0, 0, 3, 1})
	for _, x := range wrong {
		if got, e := fair.Measure(x.method, x.p, x.s, x.q, x.u); got != (api.Share{}) || e != api.ErrArg {
			t.Errorf("Measure of %v: %v, error %d", x, got, e)
		}
		if got, e := fair.Helps(x.method, x.p, x.s, x.q, x.u); got || e != api.ErrArg {
			t.Errorf("Helps of %v: %v, error %d", x, got, e)
		}
	}
	for _, method := range methods {
		for _, x := range []call{{method, 9, 0, 3, 0}, {method, 1, 0, 9, 4}, {method, 9, 1, 3, 1000}, {method, 1, 1000, api.MaxPeople, 1000}, {method, 9, 0, 3, 1000}} {
			if got, e := fair.Helps(x.method, x.p, x.s, x.q, x.u); got || e != api.ErrArg {
				t.Errorf("Helps of %v: %v, error %d", x, got, e)
			}
			checkMeasure(t, x.method, x.p, x.s, x.q, x.u)
		}
		checkHelps(t, method, 1, 1, 1, 999)
		checkHelps(t, method, api.MaxPeople, 1000, api.MaxPeople, 0)
	}
}

// P9.3

// checkUnstable compares Unstable with the second program, and returns what it says.
func checkUnstable(t *testing.T, people, won []int, method int) [][2]int {
	t.Helper()
	before, beside := slices.Clone(people), slices.Clone(won)
	want := unstable(people, won, method)
	if got, e := fair.Unstable(people, won, method); !slices.Equal(got, want) || e != api.OK {
		t.Errorf("Unstable(%v, %v, %d): %v, error %d; want %v", people, won, method, got, e, want)
	}
	unchanged(t, people, before, "Unstable")
	unchanged(t, won, beside, "Unstable")
	return want
}

// Worked out by hand, by MeWebster.
func TestUnstable(t *testing.T) {
	for _, x := range []struct {
		name        string
		people, won []int
		want        [][2]int
	}{
		{"one region", []int{7}, []int{3}, nil},
		{"equal regions with equal seats", []int{2, 2, 2}, []int{1, 1, 1}, nil},
		{"the first one has too many", []int{2, 2, 2}, []int{3, 1, 1}, [][2]int{{0, 1}, {0, 2}}},
		{"the first one has too few", []int{2, 2, 2}, []int{0, 2, 3}, [][2]int{{1, 0}, {2, 0}}},
		{"from the last one to all", []int{2, 2, 2}, []int{1, 2, 4}, [][2]int{{1, 0}, {2, 0}, {2, 1}}[1:]},
		{"a region without people gets nothing", []int{4, 0}, []int{3, 0}, nil},
		{"a region without people gives nothing", []int{0, 4}, []int{3, 0}, nil},
		{"regions without people between others", []int{0, 2, 0, 2, 0}, []int{1, 4, 1, 1, 0}, [][2]int{{1, 3}}},
		{"all seats to the smaller one", []int{1, 3}, []int{2, 0}, [][2]int{{0, 1}}},
		{"all seats to the larger one", []int{1, 3}, []int{0, 4}, [][2]int{{1, 0}}},
		{"almost the seats that they should have", []int{3, 3}, []int{2, 1}, nil},
		{"the greatest number of seats", []int{1, 1}, []int{1000, 0}, [][2]int{{0, 1}}},
	} {
		if got := checkUnstable(t, x.people, x.won, api.MeWebster); !slices.Equal(got, x.want) {
			t.Errorf("%s: %v; want %v", x.name, got, x.want)
		}
	}
	if got := checkUnstable(t, repeated(1, 60), with(repeated(0, 59), 60), api.MeWebster); len(got) != 59 || got[0] != [2]int{59, 0} || got[58] != [2]int{59, 58} {
		t.Errorf("60 regions, and all seats for the last one: %v", got)
	}
}

// The greatest number of pairs: each of 30 regions can give a seat to each of 30 others.
func TestUnstableOfManyPairs(t *testing.T) {
	people, won := repeated(1, 60), append(repeated(0, 30), repeated(33, 30)...)
	for _, method := range methods {
		if got := checkUnstable(t, people, won, method); len(got) != 900 {
			t.Errorf("method %d: %d pairs", method, len(got))
		}
	}
}

func TestUnstableOfFewRegions(t *testing.T) {
	counts := map[int]int{}
	for _, x := range append(small(), limits...) {
		for _, method := range methods {
			counts[len(checkUnstable(t, x[0], x[1], method))]++
		}
	}
	for n := range 4 {
		if counts[n] < 100 {
			t.Errorf("the test is wrong: only %d times %d pairs", counts[n], n)
		}
	}
}

func TestUnstableAtRandom(t *testing.T) {
	r := random{rand.New(rand.NewSource(4))}
	none, some, many := 0, 0, 0
	for range 1500 {
		people, won := r.allocation()
		switch n := len(checkUnstable(t, people, won, methods[r.Intn(5)])); {
		case n == 0:
			none++
		case n < 5:
			some++
		default:
			many++
		}
	}
	if none < 100 || some < 100 || many < 100 {
		t.Errorf("the test is wrong: %d times none, %d some, %d many", none, some, many)
	}
}

func TestErrorsOfUnstable(t *testing.T) {
	for _, x := range invalid {
		for _, method := range []int{api.MeWebster, 0} {
			if got, e := fair.Unstable(x.people, x.won, method); got != nil || e != x.e {
				t.Errorf("%s: Unstable is %v, error %d; want the error %d", x.name, got, e, x.e)
			}
		}
	}
	for _, method := range noMethods {
		if got, e := fair.Unstable(c, []int{3, 1, 0}, method); got != nil || e != api.ErrArg {
			t.Errorf("method %d: Unstable is %v, error %d", method, got, e)
		}
	}
}
