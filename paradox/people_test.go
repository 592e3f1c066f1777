package paradox_test

import (
	"cmp"
	"math"
	"math/rand"
	"slices"
	"testing"

	"wardmote/api"
	"wardmote/paradox"
)

// P10.3

// checkPeople compares People with the second program, for two valid censuses of as many regions, and returns what it says.
func checkPeople(t *testing.T, before, after []int, seats, method int) ([][2]int, api.Errno) {
	t.Helper()
	first, second := slices.Clone(before), slices.Clone(after)
	won, f := decided(before, seats, method)
	now, g := decided(after, seats, method)
	var want [][2]int
	if f = cmp.Or(f, g); f == api.OK {
		want = wronged(before, after, won, now)
	}
	got, e := paradox.People(before, after, seats, method)
	if !slices.Equal(got, want) || e != f || e != api.OK && got != nil {
		t.Errorf("People(%v, %v, %d, %d): %v, error %d; want %v, error %d", before, after, seats, method, got, e, want, f)
	}
	unchanged(t, before, first, "People")
	unchanged(t, after, second, "People")
	return want, f
}

// Worked out by hand.
func TestPeople(t *testing.T) {
	for _, x := range []struct {
		name          string
		before, after []int
		seats, method int
		want          [][2]int
	}{
		{"11 1 8 before 10 2 8", []int{1050, 145, 805}, []int{1040, 143, 817}, 20, api.MeHare, [][2]int{{0, 1}}},
		{"the same, from the second census to the first one", []int{1040, 143, 817}, []int{1050, 145, 805}, 20, api.MeHare, [][2]int{{1, 0}}},
		{"the same, with the regions in another order", []int{145, 805, 1050}, []int{143, 817, 1040}, 20, api.MeHare, [][2]int{{2, 0}}},
		{"the same, with regions without people", []int{0, 145, 0, 805, 1050, 0}, []int{0, 143, 0, 817, 1040, 0}, 20, api.MeHare, [][2]int{{4, 1}}},
		{"nothing changes", []int{1050, 145, 805}, []int{1050, 145, 805}, 20, api.MeHare, nil},
		{"all have twice as many", []int{1050, 145, 805}, []int{2100, 290, 1610}, 20, api.MeHare, nil},
		{"3 1 before 1 3: whoever grew less loses", []int{3, 1}, []int{1, 3}, 4, api.MeHare, nil},
		{"2 3 1 1 3 before 3 1 0 2 4: the third one loses, and grew most", []int{7, 10, 1, 4, 9}, []int{15, 4, 3, 8, 19}, 10, api.MeHare, [][2]int{{2, 0}, {2, 3}, {2, 4}}},
		{"the same backwards: three lose to the third one, which grew less", []int{15, 4, 3, 8, 19}, []int{7, 10, 1, 4, 9}, 10, api.MeHare, [][2]int{{0, 2}, {3, 2}, {4, 2}}},
		{"2 0 before 1 1: the second one had nobody at first", []int{3, 0}, []int{3, 5}, 2, api.MeHare, nil},
		{"the first one had nobody at first", []int{0, 3}, []int{5, 3}, 2, api.MeWebster, nil},
		{"1 1 before 0 2: the first one has nobody afterwards", []int{3, 3}, []int{0, 5}, 2, api.MeHare, nil},
		{"nobody moves in where nobody was: 0 1 before 0 1", []int{0, 3}, []int{0, 7}, 1, api.MeAdams, nil},
		{"one region", []int{3}, []int{7}, 1000, api.MeHare, nil},
		{"60 regions with as many each", repeated(5, 60), repeated(7, 60), 60, api.MeWebster, nil},
		// 10 1/2, 1 9/20, 8 1/20 before 10 2/5 or less, 1 9/20 or little less, 8 1/20 or more: 11 1 8 before 10 2 8. The
		// products of the first region's people then with those of the second one now, and the other way round, are around 10^17.
		{"growth in proportion that is greater by one of 10^17", []int{999999937, 138095274, 766666574}, []int{980890298, 135456323, 788415164}, 20, api.MeHare, [][2]int{{0, 1}}},
		{"growth in proportion that is less by one of 10^17", []int{999999937, 138095281, 766666567}, []int{978684076, 135151661, 790926048}, 20, api.MeHare, nil},
		{"growth in proportion that is equal", []int{1000000000, 138000000, 766761905}, []int{990000000, 136620000, 778141905}, 20, api.MeHare, nil},
	} {
		if got, e := checkPeople(t, x.before, x.after, x.seats, x.method); !slices.Equal(got, x.want) || e != api.OK {
			t.Errorf("%s: %v, error %d; want %v", x.name, got, e, x.want)
		}
	}
}

// The allocations behind TestPeople, and how close growth in proportion is there.
func TestYearsByHand(t *testing.T) {
	for _, x := range []struct {
		people, want []int
		seats        int
	}{
		{[]int{1050, 145, 805}, []int{11, 1, 8}, 20}, // 10 1/2, 1 9/20, 8 1/20
		{[]int{1040, 143, 817}, []int{10, 2, 8}, 20}, // 10 8/20, 1 43/100, 8 17/100
		{[]int{7, 10, 1, 4, 9}, []int{2, 3, 1, 1, 3}, 10},
		{[]int{15, 4, 3, 8, 19}, []int{3, 1, 0, 2, 4}, 10},
		{[]int{999999937, 138095274, 766666574}, []int{11, 1, 8}, 20},
		{[]int{980890298, 135456323, 788415164}, []int{10, 2, 8}, 20},
		{[]int{999999937, 138095281, 766666567}, []int{11, 1, 8}, 20},
		{[]int{978684076, 135151661, 790926048}, []int{10, 2, 8}, 20},
		{[]int{1000000000, 138000000, 766761905}, []int{11, 1, 8}, 20},
		{[]int{990000000, 136620000, 778141905}, []int{10, 2, 8}, 20},
	} {
		if got, _ := paradox.Decided(x.people, x.seats, api.MeHare); !slices.Equal(got, x.want) {
			t.Errorf("%d seats for %v: %v; want %v", x.seats, x.people, got, x.want)
		}
	}
	for _, x := range [][5]int{
		{999999937, 138095274, 980890298, 135456323, 1},
		{999999937, 138095281, 978684076, 135151661, -1},
		{1000000000, 138000000, 990000000, 136620000, 0},
	} {
		if got := x[2]*x[1] - x[3]*x[0]; got != x[4] {
			t.Errorf("the test is wrong: the products of %v differ by %d", x, got)
		}
	}
}

// closeGrowth returns two numbers of people behind two others, so that the first ones are to the others nearly as before:
// the products a * behind b and b * behind a differ by one, or not at all.
func closeGrowth(a, b, difference int) (behindA, behindB int) {
	if difference == 0 {
		divisor := commonDivisor(a, b)
		return a - a/divisor*(divisor/100), b - b/divisor*(divisor/100)
	}
	// A step of Euclid's algorithm: behindA * b - behindB * a = difference.
	behindA, next := 0, 1
	for r, s := a, b; s > 0; r, s = s, r%s {
		behindA, next = next, behindA-r/s*next
	}
	behindA = (behindA*difference%a + a) % a
	return behindA, (behindA*b - difference) / a
}

func commonDivisor(a, b int) int {
	for b > 0 {
		a, b = b, a%b
	}
	return a
}

// Two regions that grow, in proportion, by nearly as much as each other, beside a third one.
func TestPeopleWithCloseGrowth(t *testing.T) {
	r := random{rand.New(rand.NewSource(5))}
	losses, near := 0, map[int]int{}
	for near[1] < 300 || near[-1] < 300 || near[0] < 300 {
		a := api.MaxPeople - r.Intn(1000000)
		b := a*145/1050 + r.Intn(1000)
		difference := r.Intn(3) - 1
		if difference == 0 {
			a, b = a/1000*1000, b/1000*1000
		}
		if difference != 0 && commonDivisor(a, b) > 1 {
			continue
		}
		behindA, behindB := closeGrowth(a, b, difference)
		if behindA < a/20*19 || behindA > a/1000*994 {
			continue // or else the seats do not change from 11 1 8 to 10 2 8
		}
		if got := behindA*b - behindB*a; got != difference {
			t.Fatalf("the test is wrong: %d %d before %d %d differ by %d; want %d", a, b, behindA, behindB, got, difference)
		}
		near[difference]++
		all := a * 2000 / 1050
		found, _ := checkPeople(t, []int{a, b, all - a - b}, []int{behindA, behindB, all - behindA - behindB}, 20, api.MeHare)
		losses += len(found)
		if len(found) > 0 && difference != 1 {
			t.Errorf("%d %d before %d %d, which differ by %d: %v", a, b, behindA, behindB, difference, found)
		}
	}
	if losses < 100 {
		t.Errorf("the test is wrong: only %d losses", losses)
	}
}

func TestPeopleOfFewRegions(t *testing.T) {
	ends := map[api.Errno]int{}
	for regions := 1; regions <= 3; regions++ {
		all := censuses(regions, []int{0, 4, 4, 3}[regions])
		for _, before := range all {
			for _, after := range all {
				for i, method := range methods {
					_, e := checkPeople(t, before, after, 1+(total(before)+i)%5, method)
					ends[e]++
				}
			}
		}
	}
	if ends[api.OK] < 10000 || ends[api.ErrState] < 2000 || ends[api.ErrFail] < 500 || len(ends) != 3 {
		t.Errorf("the test is wrong: %v", ends)
	}
}

func TestPeopleAtRandom(t *testing.T) {
	r := random{rand.New(rand.NewSource(6))}
	losses, ends, several := map[int]int{}, map[api.Errno]int{}, 0
	for range 12000 {
		before := r.census(3+r.Intn([]int{4, 12, 58}[r.Intn(3)]), []int{20, 1000, api.MaxPeople}[r.Intn(3)])
		after := r.grown(before)
		method := quotas[r.Intn(4)]
		if r.Intn(5) == 0 {
			method = divisors[r.Intn(5)]
		}
		found, e := checkPeople(t, before, after, 1+r.Intn([]int{40, 300, 300, 1000}[r.Intn(4)]), method)
		losses[method] += len(found)
		ends[e]++
		if len(found) > 1 {
			several++
		}
	}
	for _, method := range quotas {
		if losses[method] < 25 {
			t.Errorf("the test is wrong: %v", losses)
		}
	}
	if ends[api.OK] < 2000 || ends[api.ErrState] < 500 || ends[api.ErrFail] < 100 || several < 20 {
		t.Errorf("the test is wrong: %v, and %d times several", ends, several)
	}
}

// From the second census to the first one, the pairs are turned round, if there are people in all regions.
func TestPeopleBackwards(t *testing.T) {
	r := random{rand.New(rand.NewSource(7))}
	losses := 0
	for losses < 200 {
		before := slices.DeleteFunc(r.census(20, 1000), func(n int) bool { return n == 0 })
		after := r.grown(before)
		if slices.Contains(after, 0) {
			continue
		}
		seats, method := 1+r.Intn(300), quotas[r.Intn(4)]
		there, _ := paradox.People(before, after, seats, method)
		back, _ := paradox.People(after, before, seats, method)
		losses += len(there)
		for i, pair := range back {
			back[i] = [2]int{pair[1], pair[0]}
		}
		slices.SortFunc(back, func(a, b [2]int) int { return slices.Compare(a[:], b[:]) })
		if !slices.Equal(there, back) {
			t.Errorf("%v and %v, %d seats, %d: %v; backwards and turned round %v", before, after, seats, method, there, back)
		}
	}
}

func TestErrorsOfPeople(t *testing.T) {
	check := func(before, after []int, seats, method int, want api.Errno) {
		t.Helper()
		if got, e := paradox.People(before, after, seats, method); got != nil || e != want {
			t.Errorf("People(%v, %v, %d, %d): %v, error %d; want the error %d", before, after, seats, method, got, e, want)
		}
	}
	// The first one ties for one seat by MeHagenbach, and the second one fails.
	ties, fails := []int{1, 1, 1}, []int{1, 1, 0}
	for _, people := range invalid {
		for _, seats := range []int{1, 0, 1001} {
			for _, method := range []int{api.MeHagenbach, api.MeHill, 0, 5} {
				for _, valid := range [][]int{{1}, ties, fails, repeated(1, 60)} {
					check(people, valid, seats, method, api.ErrQuota)
					check(valid, people, seats, method, api.ErrQuota)
					check(people, people, seats, method, api.ErrQuota)
				}
			}
		}
	}
	for _, x := range [][2][]int{{{1}, {1, 0}}, {{1, 0}, {1}}, {ties, {1, 1}}, {{1, 1}, ties}, {fails, {1, 1}}, {repeated(1, 59), repeated(1, 60)}, {repeated(1, 60), {1}}} {
		check(x[0], x[1], 1, api.MeHagenbach, api.ErrArg)
		check(x[0], x[1], 0, api.MeHagenbach, api.ErrArg)
		check(x[0], x[1], 1, 5, api.ErrArg)
	}
	for _, seats := range []int{math.MinInt, -1, 0, 1001, math.MaxInt} {
		for _, method := range append(noMethods, methods...) {
			check(ties, fails, seats, method, api.ErrArg)
		}
	}
	for _, method := range noMethods {
		check(ties, fails, 1, method, api.ErrArg)
	}
	check(ties, fails, 1, api.MeHagenbach, api.ErrState)
	check(fails, ties, 1, api.MeHagenbach, api.ErrFail)
	check([]int{3, 1, 1}, fails, 1, api.MeHagenbach, api.ErrFail)
	check([]int{3, 1, 1}, ties, 1, api.MeHagenbach, api.ErrState)
	check(ties, []int{3, 1, 1}, 1, api.MeHagenbach, api.ErrState)
	check(fails, []int{3, 1, 1}, 1, api.MeHagenbach, api.ErrFail)
	check([]int{3, 1, 1}, ties, 1, api.MeWebster, api.ErrState)
	check(ties, []int{3, 1, 1}, 1, api.MeWebster, api.ErrState)
}
