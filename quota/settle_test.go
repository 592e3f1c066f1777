package quota_test

import (
	"math"
	"math/rand"
	"slices"
	"testing"

	"wardmote/api"
	"wardmote/quota"
)

// P6.4

// checkSettle compares Settle with the second program.
func checkSettle(t *testing.T, a api.Award, order []int) api.Errno {
	t.Helper()
	seats, tied, beside := slices.Clone(a.Seats), slices.Clone(a.Tied), slices.Clone(order)
	want, f := settled(a, order)
	got, e := quota.Settle(a, order)
	if !slices.Equal(got, want) || e != f || e != api.OK && got != nil {
		t.Errorf("Settle(%v, %v): %v, error %d; want %v, error %d", a, order, got, e, want, f)
	}
	for i := range got {
		got[i] = -7 // which is not to be seen in the award
	}
	unchanged(t, a.Seats, seats, "Settle")
	unchanged(t, a.Tied, tied, "Settle")
	unchanged(t, order, beside, "Settle")
	return e
}

func TestSettle(t *testing.T) {
	three := tie([]int{0, 2, 3}, 2, 4, 9, 0, 1, 7)
	two := tie([]int{1, 2}, 1, 5, 6, 7)
	for _, x := range []struct {
		name  string
		a     api.Award
		order []int
		want  []int
	}{
		{"no tie, and no list", sure(3, 1), nil, []int{3, 1}},
		{"no tie, and an empty list", api.Award{Seats: []int{3, 1}, Tied: []int{}}, []int{}, []int{3, 1}},
		{"no tie, and a list", sure(3, 1), []int{1, 0, 1, 1}, []int{3, 1}},
		{"one region without seats", sure(0), nil, []int{0}},
		{"one region with 1000 seats", sure(1000), []int{0}, []int{1000}},
		{"60 regions with 1000 seats", sure(repeated(1000, 60)...), nil, repeated(1000, 60)},
		{"the list rises", three, []int{0, 2}, []int{5, 9, 1, 1, 7}},
		{"the list falls", three, []int{3, 2}, []int{4, 9, 1, 2, 7}},
		{"the first ones of all that tie", three, []int{3, 0, 2}, []int{5, 9, 0, 2, 7}},
		{"regions that are not tied", three, []int{1, 4, 2, 4, 1, 0, 1}, []int{5, 9, 1, 1, 7}},
		{"regions a second time", three, []int{2, 2, 2, 0, 0, 3}, []int{5, 9, 1, 1, 7}},
		{"a second time behind the last open seat", three, []int{2, 3, 2, 3, 0}, []int{4, 9, 1, 2, 7}},
		{"only regions that are not tied", three, []int{1, 4}, nil},
		{"no list", three, nil, nil},
		{"one of two", three, []int{2}, nil},
		{"one of two, a second time", three, []int{2, 2, 2}, nil},
		{"one of two, and others", three, []int{1, 2, 4, 4, 2}, nil},
		{"one open seat", two, []int{0, 2, 1}, []int{5, 6, 8}},
		{"one open seat, and a region that is not tied", two, []int{0}, nil},
		{"a seat beyond 1000", tie([]int{0, 1}, 1, 1000, 1000), []int{1}, []int{1000, 1001}},
	} {
		e := api.OK
		if x.want == nil {
			e = api.ErrNone
		}
		if got, f := quota.Settle(x.a, x.order); !slices.Equal(got, x.want) || f != e || f != api.OK && got != nil {
			t.Errorf("%s: %v, error %d; want %v, error %d", x.name, got, f, x.want, e)
		}
		checkSettle(t, x.a, x.order)
	}
}

func TestSettleOf60Regions(t *testing.T) {
	all := numbers(60)
	a := tie(all, 59, repeated(16, 60)...)
	checkSettle(t, a, all)
	checkSettle(t, a, all[1:])
	checkSettle(t, a, all[2:])
	backwards := slices.Clone(all)
	slices.Reverse(backwards)
	checkSettle(t, a, backwards)
	a.Open = 1
	checkSettle(t, a, backwards)
	long := append(slices.Repeat(all[:30], 20000), all...)
	got, e := quota.Settle(tie(all[30:], 29, repeated(0, 60)...), long)
	if want := append(repeated(0, 30), with(repeated(1, 29), 0)...); !slices.Equal(got, want) || e != api.OK {
		t.Errorf("Settle by a list of %d regions: %v, error %d; want %v", len(long), got, e, want)
	}
}

func TestSettleAtRandom(t *testing.T) {
	r := random{rand.New(rand.NewSource(4))}
	errors := map[api.Errno]int{}
	for range 5000 {
		regions := 2 + r.Intn([]int{3, 59}[r.Intn(2)])
		tied := r.Perm(regions)[:2+r.Intn(regions-1)]
		slices.Sort(tied)
		a := tie(tied, 1+r.Intn(len(tied)-1))
		for range regions {
			a.Seats = append(a.Seats, r.Intn(1001))
		}
		order := r.Perm(regions)
		for range r.Intn(6) {
			order = slices.Insert(order, r.Intn(len(order)), r.Intn(regions))
		}
		errors[checkSettle(t, a, order[r.Intn(len(order)):])]++
	}
	if errors[api.OK] < 1000 || errors[api.ErrNone] < 1000 {
		t.Errorf("the test is wrong: %v", errors)
	}
}

func TestInvalidAwards(t *testing.T) {
	two := []int{0, 1}
	for name, a := range map[string]api.Award{
		"nothing":                                 {},
		"no regions":                              {Seats: []int{}},
		"no regions, and a tie":                   {Tied: two, Open: 1},
		"61 regions":                              sure(repeated(0, 61)...),
		"a million regions":                       sure(repeated(0, 1000000)...),
		"negative seats":                          sure(-1),
		"negative seats in front":                 sure(-1, 5, 5),
		"negative seats at the end":               sure(5, 5, -1),
		"the least int":                           sure(5, math.MinInt),
		"1001 seats":                              sure(1001),
		"1001 seats in front":                     sure(1001, 0),
		"1001 seats at the end":                   sure(0, 1001),
		"the greatest int":                        sure(math.MaxInt, 0),
		"open seats without a tie":                tie(nil, 1, 1, 1),
		"open seats without a tie, not nil":       tie([]int{}, 1, 1, 1),
		"negative open seats without a tie":       tie(nil, -1, 1, 1),
		"a tie for no seats":                      tie(two, 0, 1, 1),
		"a tie for -1 seats":                      tie(two, -1, 1, 1),
		"a tie for the least int":                 tie(two, math.MinInt, 1, 1),
		"a tie for as many seats as regions":      tie(two, 2, 1, 1),
		"a tie for more seats than regions":       tie(two, 3, 1, 1, 1, 1),
		"a tie for the greatest int":              tie(two, math.MaxInt, 1, 1),
		"a tie of three for three":                tie([]int{0, 1, 2}, 3, 1, 1, 1, 1),
		"a tie of one region":                     tie([]int{0}, 1, 1, 1),
		"a tie of one region for no seats":        tie([]int{0}, 0, 1, 1),
		"a tie that falls":                        tie([]int{1, 0}, 1, 1, 1),
		"a tie that falls at the end":             tie([]int{0, 2, 1}, 1, 1, 1, 1),
		"a tie that falls in front":               tie([]int{1, 0, 2}, 1, 1, 1, 1),
		"a tie with a region twice":               tie([]int{0, 0}, 1, 1, 1),
		"a tie with a region twice at the end":    tie([]int{0, 1, 1}, 1, 1, 1),
		"a tie with a region behind the last one": tie([]int{0, 2}, 1, 1, 1),
		"a tie with the region -1":                tie([]int{-1, 0}, 1, 1, 1),
		"a tie with the region 60":                tie([]int{0, 60}, 1, repeated(0, 60)...),
		"a tie with the greatest int":             tie([]int{0, math.MaxInt}, 1, 1, 1),
		"a tie with the least int":                tie([]int{math.MinInt, 0}, 1, 1, 1),
		"a tie of a million regions":              tie(numbers(1000000), 1, 1, 1),
	} {
		for _, order := range [][]int{nil, {0}, {0, 1}, {1, 0}, {-1}} {
			if got, e := quota.Settle(a, order); got != nil || e != api.ErrArg {
				t.Errorf("Settle of %s by %v: %v, error %d", name, order, got, e)
			}
		}
	}
}

func TestInvalidOrders(t *testing.T) {
	for _, number := range []int{-1, 3, 60, math.MinInt, math.MaxInt} {
		for _, order := range [][]int{{number}, {number, 0, 1}, {0, number}, {0, 1, number}, {2, number, 0}} {
			for _, a := range []api.Award{sure(1, 1, 1), tie([]int{0, 1}, 1, 1, 1, 1), tie([]int{0, 1, 2}, 2, 1, 1, 1)} {
				if got, e := quota.Settle(a, order); got != nil || e != api.ErrArg {
					t.Errorf("Settle(%v, %v): %v, error %d", a, order, got, e)
				}
			}
		}
	}
}
