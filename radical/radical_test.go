package radical_test

import (
	"math"
	"math/big"
	"math/rand"
	"slices"
	"testing"

	"wardmote/api"
	"wardmote/radical"
	"wardmote/share"
	"wardmote/wide"
)

// The chapter's examples.
func TestExamples(t *testing.T) {
	got, e := radical.Make(r(1, 8, 3, 2, 1, 0, -1, 4))
	checkRadical(t, got, e, r(-2, 1, 5, 2), api.OK, "Make")
	got, e = radical.Make(r(1, 12, -2, 3))
	checkRadical(t, got, e, nil, api.OK, "Make")
	for _, bad := range []api.Radical{r(1, 4), r(1, 3, 1, 2)} {
		if e := radical.Check(bad); e != api.ErrRadical {
			t.Errorf("Check(%v): error %d", bad, e)
		}
	}
	got, e = radical.Add(r(1, 2), r(-1, 2))
	checkRadical(t, got, e, nil, api.OK, "Add")
	got, e = radical.Scale(r(1, 2), -3)
	checkRadical(t, got, e, r(-3, 2), api.OK, "Scale")
	got, e = radical.Length(api.Point{}, api.Point{X: 3, Y: 4})
	checkRadical(t, got, e, r(5, 1), api.OK, "Length")
	got, e = radical.Length(api.Point{}, api.Point{X: 1, Y: 1})
	checkRadical(t, got, e, r(1, 2), api.OK, "Length")
	for _, x := range []struct {
		l         api.Radical
		bits      int
		low, high string
	}{{r(1, 2), 2, "5/4", "3/2"}, {r(-1, 2), 2, "-3/2", "-5/4"}, {r(3, 1), 0, "3", "3"}} {
		if low, high, e := radical.Enclose(x.l, x.bits); low != of(x.low) || high != of(x.high) || e != api.OK {
			t.Errorf("Enclose(%v, %d): %v, %v, error %d", x.l, x.bits, low, high, e)
		}
	}
	if sign, e := radical.Sign(r(-3, 1, 1, 2, 1, 3)); sign != 1 || e != api.OK {
		t.Errorf("Sign: %d, error %d", sign, e)
	}
	if order, e := radical.Cmp(r(1, 2), of("7/5")); order != 1 || e != api.OK {
		t.Errorf("Cmp: %d, error %d", order, e)
	}
	if order, e := radical.Cmp(r(-2, 1), of("-2")); order != 0 || e != api.OK {
		t.Errorf("Cmp: %d, error %d", order, e)
	}
}

// P3.1

func TestCheck(t *testing.T) {
	great := primeBelow(under)
	valid := append(samples(100, 12),
		nil, api.Radical{}, r(1, 1), r(-1, 1), r(1, 2), r(most, 1), r(-most, 1, most, 2, -most, 3),
		r(1, 1, 1, 2, 1, 3, 1, 5, 1, 6, 1, 7, 1, 10), r(1, 30030), r(1, 200560490130), r(1, 7420738134810), // products of the first primes
		r(1, great), r(1, squarefree(under-3, 1)[0]), r(1, 21557*21559), r(1, 21529*21529-2), r(1, 2*21557*21559),
		r(1, 21521*21523*21529), r(1, 21521*21529*21557), r(1, 1000003*3162253),
		spanning(1, 200, 1), spanning(1, 200, -most),
	)
	for _, l := range valid {
		before := slices.Clone(l)
		// The Unders are squarefree by another way of seeing it, so that the list above cannot be wrong.
		for _, term := range l {
			if squarePart(term.Under) > 1 {
				t.Fatalf("the test is wrong: %d is not squarefree", term.Under)
			}
		}
		if e := radical.Check(l); e != api.OK {
			t.Errorf("Check(%v): error %d", l, e)
		}
		if !slices.Equal(l, before) {
			t.Errorf("Check wrote to its argument %v", before)
		}
	}
	for name, l := range invalid() {
		if e := radical.Check(l); e != api.ErrRadical {
			t.Errorf("Check of %s, %v: error %d; want ErrRadical", name, l, e)
		}
	}
	if e := radical.Check(make(api.Radical, 1000000)); e != api.ErrRadical {
		t.Errorf("Check of a million terms: error %d; want ErrRadical", e)
	}
}

func TestCheckOfSmallUnders(t *testing.T) {
	for n := -5; n <= 3000; n++ {
		want := api.ErrRadical
		if n > 0 && squarePart(n) == 1 {
			want = api.OK
		}
		if e := radical.Check(r(1, n)); e != want {
			t.Errorf("Check of the root of %d: error %d; want %d", n, e, want)
		}
	}
}

// Each prime number is one whose square is seen, and no two of them are taken for one.
func TestCheckOfSquares(t *testing.T) {
	last := 2
	for n := 3; n < 24000; n++ {
		if !big.NewInt(int64(n)).ProbablyPrime(0) {
			continue
		}
		for _, square := range []int{n * n, 2 * n * n, 6 * n * n, last * n * n} {
			if square > under {
				continue
			}
			if e := radical.Check(r(1, square)); e != api.ErrRadical {
				t.Errorf("Check of the root of %d, which %d divides twice: error %d; want ErrRadical", square, n, e)
			}
		}
		if e := radical.Check(r(1, last*n)); e != api.OK {
			t.Errorf("Check of the root of %d: error %d", last*n, e)
		}
		last = n
	}
}

func TestSame(t *testing.T) {
	l := []api.Radical{
		nil, r(1, 1), r(-1, 1), r(1, 2), r(1, 1, 1, 2), r(1, 1, -1, 2), r(1, 1, 1, 3), r(1, 1, 1, 2, 1, 3), r(2, 1, 1, 2), r(2, 1, 1, 2, 1, 3),
		r(1, 2, 1, 1), r(1, 4), r(2, 2), r(1, 8), r(0, 0), r(0, 0, 0, 0), r(0, 1), spanning(1, 200, 1), spanning(1, 201, 1), spanning(1, 401, 1),
	}
	for i, a := range l {
		for k, b := range l {
			if got := radical.Same(a, slices.Clone(b)); got != (i == k) {
				t.Errorf("Same(%v, %v): %v", a, b, got)
			}
		}
	}
	if !radical.Same(nil, api.Radical{}) || !radical.Same(api.Radical{}, nil) {
		t.Errorf("Same: an empty list is not the same as nil")
	}
	a := spanning(1, 200, 1)
	for i := range a {
		b := slices.Clone(a)
		b[i].Times = -1
		if radical.Same(a, b) || radical.Same(b, a) {
			t.Errorf("Same takes no account of the Times at %d", i)
		}
		b = slices.Clone(a)
		b[i].Under++
		if radical.Same(a, b) || radical.Same(b, a) {
			t.Errorf("Same takes no account of the Under at %d", i)
		}
	}
}

// P3.2

func checkMake(t *testing.T, l []api.Term) {
	t.Helper()
	before := slices.Clone(l)
	want, f := made(l)
	got, e := radical.Make(l)
	checkRadical(t, got, e, want, f, "Make", l)
	if !slices.Equal(l, before) {
		t.Errorf("Make wrote to its argument %v", before)
	}
}

func TestMake(t *testing.T) {
	checkMake(t, nil)
	checkMake(t, []api.Term{})
	for n := range 2000 {
		checkMake(t, r(3, n))
		checkMake(t, r(-1, n, 1, n+1, 1, 4*n))
	}
	source := rand.New(rand.NewSource(6))
	for range 2000 {
		var l []api.Term
		for range source.Intn(30) {
			l = append(l, api.Term{Times: source.Intn(9) - 4, Under: source.Intn(80)})
		}
		checkMake(t, l)
	}
	for range 300 {
		var l []api.Term
		for range source.Intn(8) {
			l = append(l, api.Term{Times: source.Intn(2*most) - most, Under: source.Intn(1000) * source.Intn(1000)})
		}
		checkMake(t, l)
	}
}

func TestMakeOfLargeUnders(t *testing.T) {
	great := primeBelow(floorRoot(under) + 1)
	for _, x := range []struct{ n, square, rest int }{
		{under, 1000000, 10},
		{under - 1, 3, 1111111111111},
		{primeBelow(under), 1, primeBelow(under)},
		{1 << 43, 1 << 21, 2},
		{1 << 42, 1 << 21, 1},
		{7625597484987, 1594323, 3}, // 3^27
		{9000000000000, 3000000, 1},
		{21529 * 21529, 21529, 1},
		{21529 * 21529 * 21529, 21529, 21529},
		{21523 * 21523 * 21529, 21523, 21529},
		{21521 * 21523 * 21529, 1, 21521 * 21523 * 21529},
		{21557 * 21557, 21557, 1},
		{2 * 21557 * 21557, 21557, 2},
		{4 * 21557 * 21557, 2 * 21557, 1},
		{8 * 21557 * 21557, 2 * 21557, 2},
		{21557 * 21559, 1, 21557 * 21559},
		{9 * 21557 * 21559, 3, 21557 * 21559},
		{21503 * 21557 * 21557, 21557, 21503},
		{great * great, great, 1},
		{6 * 1000003 * 1000003, 1000003, 6},
		{1000003 * 1000033, 1, 1000003 * 1000033},
		{4 * 1000003 * 1000033, 2, 1000003 * 1000033},
		{2 * 3 * 5 * 7 * 11 * 13 * 17 * 19 * 23 * 29 * 31 * 31, 31, 2 * 3 * 5 * 7 * 11 * 13 * 17 * 19 * 23 * 29},
		{4 * 9 * 25 * 49 * 121 * 169 * 289, 2 * 3 * 5 * 7 * 11 * 13 * 17, 1},
	} {
		if x.square*x.square*x.rest != x.n || squarePart(x.n) != x.square {
			t.Fatalf("the test is wrong: %v", x)
		}
		got, e := radical.Make(r(1, x.n))
		checkRadical(t, got, e, r(x.square, x.rest), api.OK, "Make", x.n)
		got, e = radical.Make(r(-7, x.n, 5, x.n))
		checkRadical(t, got, e, r(-2*x.square, x.rest), api.OK, "Make", x.n)
		got, e = radical.Make(r(-1, x.n, x.square, x.rest))
		checkRadical(t, got, e, nil, api.OK, "Make", x.n)
	}
	source := rand.New(rand.NewSource(7))
	for range 30 {
		checkMake(t, r(1, 1+source.Intn(under), -5, 4*(1+source.Intn(under/4)), 1, 81*(1+source.Intn(under/81))))
	}
}

func TestMakeAtTheLimits(t *testing.T) {
	for _, x := range []struct {
		name    string
		l, want api.Radical
		e       api.Errno
	}{
		{"Times 0", r(0, 2), nil, api.OK},
		{"Times and Under 0", r(0, 0), nil, api.OK},
		{"Under 0", r(most, 0, -most, 0, most, 0), nil, api.OK},
		{"Times 0, with a square", r(0, 4, 0, under), nil, api.OK},
		{"Times 0 between others", r(1, 3, 0, 3, 0, 2, -1, 5), r(1, 3, -1, 5), api.OK},
		{"Times 10^15", r(most, 2), r(most, 2), api.OK},
		{"Times -10^15", r(-most, 1), r(-most, 1), api.OK},
		{"Times of the result 10^15", r(most/2, 8), r(most, 2), api.OK},
		{"Times of the result -10^15", r(-most/2, 8), r(-most, 2), api.OK},
		{"Times of the result 10^15 as a sum", r(most-1, 2, 1, 2), r(most, 2), api.OK},
		{"Times of the result 10^15 + 1", r(most, 2, 1, 2), nil, api.ErrBig},
		{"Times of the result -10^15 - 1", r(-most, 2, -1, 2), nil, api.ErrBig},
		{"Times of the result 10^15 + 2", r(most/2+1, 8), nil, api.ErrBig},
		{"Times of the result beyond it in the last term", r(1, 1, 1, 2, most, 3, 1, 3), nil, api.ErrBig},
		{"too large only on the way", r(most, 2, 1, 2, -1, 2), r(most, 2), api.OK},
		{"too large only on the way, by a square", r(most, 8, -most, 2), r(most, 2), api.OK},
		{"2^64", r(1<<44, 1<<40), nil, api.ErrBig},
		{"2^64 + 1", r(1<<44, 1<<40, 1, 1), nil, api.ErrBig},
		{"2^64 - 2^64 + 1", r(1<<44, 1<<40, -1<<44, 1<<40, 1, 1), r(1, 1), api.OK},
		{"-2^63", r(-1<<43, 1<<40), nil, api.ErrBig},
		{"3 10^21", r(most, 9000000000000), nil, api.ErrBig},
		{"10^21 - 10^21", r(most, under, -most, under), nil, api.OK},
		{"Under 10^13", r(-1, under), r(-1000000, 10), api.OK},
		{"Under 10^13, Times 10^9", r(1000000000, under), r(most, 10), api.OK},
		{"Under 10^13, Times 10^9 + 1", r(1000000001, under), nil, api.ErrBig},
		{"Under 10^13 + 1", r(1, under+1), nil, api.ErrArg},
		{"Under -1", r(1, -1), nil, api.ErrArg},
		{"Under -1, Times 0", r(0, -1), nil, api.ErrArg},
		{"Under 10^13 + 1, Times 0", r(0, under+1), nil, api.ErrArg},
		{"the least Under", r(1, math.MinInt), nil, api.ErrArg},
		{"the greatest Under", r(1, math.MaxInt), nil, api.ErrArg},
		{"Times 10^15 + 1", r(most+1, 2), nil, api.ErrArg},
		{"Times -10^15 - 1", r(-most-1, 2), nil, api.ErrArg},
		{"Times 10^15 + 1, Under 0", r(most+1, 0), nil, api.ErrArg},
		{"Times that cancel, beyond 10^15", r(most+1, 2, -most-1, 2), nil, api.ErrArg},
		{"the least Times", r(math.MinInt, 1), nil, api.ErrArg},
		{"the greatest Times", r(math.MaxInt, 1), nil, api.ErrArg},
		{"ErrArg behind what is too large", r(most, 2, most, 2, 1, -1), nil, api.ErrArg},
		{"ErrArg behind what is too large, by Times", r(most, 2, most, 2, most+1, 1), nil, api.ErrArg},
	} {
		got, e := radical.Make(x.l)
		checkRadical(t, got, e, x.want, x.e, "Make: "+x.name)
	}
	// 198 times 3 10^21, less the same, is nothing.
	l := slices.Concat(slices.Repeat(r(most, 9000000000000), 198), slices.Repeat(r(-most, 9000000000000), 198), r(most-1, 1, 1, 1))
	got, e := radical.Make(l)
	checkRadical(t, got, e, r(most, 1), api.OK, "Make: 398 terms")
	got, e = radical.Make(l[:397])
	checkRadical(t, got, e, r(most-1, 1), api.OK, "Make: 397 terms")
	got, e = radical.Make(l[1:])
	checkRadical(t, got, e, nil, api.ErrBig, "Make: 397 terms, too large")
}

func TestMakeOfManyTerms(t *testing.T) {
	wanted, other := spanning(1, 200, 1), spanning(1, 200, -2)
	next := spanning(1, 201, 1)[200:] // one more Under
	tooMany := slices.Concat(wanted, next)
	doubled := slices.Concat(wanted, wanted)
	zeros := slices.Repeat(r(0, 7), 200)
	for _, x := range []struct {
		name    string
		l, want api.Radical
		e       api.Errno
	}{
		{"200 results of 200", wanted, wanted, api.OK},
		{"201 results of 201", tooMany, nil, api.ErrLong},
		{"200 results of 400", doubled, spanning(1, 200, 2), api.OK},
		{"400 results of 400", spanning(1, 400, 1), nil, api.ErrLong},
		{"200 results of 400, with other signs", slices.Concat(wanted, other), spanning(1, 200, -1), api.OK},
		{"no results of 400", slices.Concat(wanted, spanning(1, 200, -1)), nil, api.OK},
		{"200 results of 203", slices.Concat(wanted, next, r(-1, 5, 0, 0)), slices.Concat(spanning(1, 3, 1), spanning(6, 197, 1)), api.OK},
		{"200 results of 400, half of them 0", slices.Concat(zeros, wanted), wanted, api.OK},
		{"201 results, one of them too large", slices.Concat(tooMany, r(most, 10)), nil, api.ErrBig},
		{"201 results, the first one too large", slices.Concat(tooMany, r(most, 1)), nil, api.ErrBig},
		{"201 results, the last one too large", slices.Concat(tooMany, next, r(most, next[0].Under)), nil, api.ErrBig},
		{"401 terms", slices.Concat(doubled, r(1, 1)), nil, api.ErrLong},
		{"401 terms, of which nothing is left", slices.Repeat(r(0, 0), 401), nil, api.ErrLong},
		{"401 terms, one of them not valid", slices.Concat(doubled, r(1, -1)), nil, api.ErrLong},
		{"401 terms, the first one not valid", slices.Concat(r(most+1, 1), doubled), nil, api.ErrLong},
		{"401 terms, too large", slices.Repeat(r(most, 1), 401), nil, api.ErrLong},
		{"a million terms", make(api.Radical, 1000000), nil, api.ErrLong},
		{"400 terms, the last one not valid", slices.Concat(doubled[:399], r(1, under+1)), nil, api.ErrArg},
		{"400 results, the last one not valid", slices.Concat(spanning(1, 399, 1), r(most+1, 1)), nil, api.ErrArg},
	} {
		got, e := radical.Make(x.l)
		checkRadical(t, got, e, x.want, x.e, "Make: "+x.name)
	}
	reversed := slices.Clone(wanted)
	slices.Reverse(reversed)
	got, e := radical.Make(reversed)
	checkRadical(t, got, e, wanted, api.OK, "Make: Unders that fall")
	large := spanning(under-700, 200, most/2)
	got, e = radical.Make(slices.Concat(large, large))
	checkRadical(t, got, e, spanning(under-700, 200, most), api.OK, "Make: large Unders")
}

// P3.3

func checkAdd(t *testing.T, a, b api.Radical) {
	t.Helper()
	before, beside := slices.Clone(a), slices.Clone(b)
	want, f := made(slices.Concat(a, b))
	got, e := radical.Add(a, b)
	checkRadical(t, got, e, want, f, "Add", a, b)
	got, e = radical.Add(b, a)
	checkRadical(t, got, e, want, f, "Add", b, a)
	if !slices.Equal(a, before) || !slices.Equal(b, beside) {
		t.Errorf("Add wrote to its arguments %v and %v", before, beside)
	}
}

func TestAdd(t *testing.T) {
	l := append(samples(60, 5), nil, r(1, 1), r(-1, 1), r(most, 1), r(1, 2, 1, 3), r(-1, 2, -1, 3), r(1, 5, 1, 6), r(most-1, 2), r(-most, 2))
	for _, a := range l {
		for _, b := range l {
			checkAdd(t, a, b)
		}
		opposite, e := radical.Scale(a, -1)
		if e != api.OK {
			t.Errorf("Scale(%v, -1): error %d", a, e)
		}
		got, e := radical.Add(a, opposite)
		checkRadical(t, got, e, nil, api.OK, "Add", a, opposite)
	}
}

func TestAddAtTheLimits(t *testing.T) {
	full := spanning(1, 200, 1)
	next := spanning(1, 201, 1)[200:]
	for _, x := range []struct {
		name       string
		a, b, want api.Radical
		e          api.Errno
	}{
		{"a Times that is 10^15", r(most-1, 2), r(1, 2), r(most, 2), api.OK},
		{"a Times that is 10^15 + 1", r(most, 2), r(1, 2), nil, api.ErrBig},
		{"a Times that is -10^15 - 1", r(1, 1, -most, 2), r(-1, 2), nil, api.ErrBig},
		{"200 terms and none", full, nil, full, api.OK},
		{"200 and 200 terms", full, full, spanning(1, 200, 2), api.OK},
		{"200 and other 200 terms", full, spanning(next[0].Under, 200, 1), nil, api.ErrLong},
		{"200 terms and another one", full, next, nil, api.ErrLong},
		{"200 terms, of which one is replaced", full, slices.Concat(r(-1, 1), next), slices.Concat(full[1:], next), api.OK},
		{"201 terms, of which one is too large", full, slices.Concat(r(most, 1), next), nil, api.ErrBig},
		{"201 terms, of which the last one is too large", slices.Concat(full[:199], r(most, next[0].Under)), slices.Concat(full[198:], next), nil, api.ErrBig},
	} {
		got, e := radical.Add(x.a, x.b)
		checkRadical(t, got, e, x.want, x.e, "Add: "+x.name)
	}
	for name, bad := range invalid() {
		for _, good := range []api.Radical{nil, r(1, 1), r(most, 2), full} {
			got, e := radical.Add(bad, good)
			checkRadical(t, got, e, nil, api.ErrRadical, "Add: "+name)
			got, e = radical.Add(good, bad)
			checkRadical(t, got, e, nil, api.ErrRadical, "Add: "+name)
		}
		got, e := radical.Add(bad, bad)
		checkRadical(t, got, e, nil, api.ErrRadical, "Add: "+name)
	}
}

// scaled returns what Scale should return for a valid radical.
func scaled(l api.Radical, n int) (api.Radical, api.Errno) {
	var result api.Radical
	for _, t := range l {
		product := new(big.Int).Mul(big.NewInt(int64(t.Times)), big.NewInt(int64(n)))
		if new(big.Int).Abs(product).Cmp(big.NewInt(most)) > 0 {
			return nil, api.ErrBig
		}
		if n != 0 {
			result = append(result, api.Term{Times: int(product.Int64()), Under: t.Under})
		}
	}
	return result, api.OK
}

func TestScale(t *testing.T) {
	l := append(samples(60, 5),
		nil, r(1, 1), r(-1, 1), r(2, 2, -3, 3), r(most, 1), r(-most, 1), r(most/2, 2), r(1, 2, most/3, 3), r(-1, 2, 1<<32, 3), r(1<<48, 7),
		spanning(1, 200, 1), spanning(1, 200, 5), spanning(1, 200, -most),
	)
	numbers := []int{
		0, 1, -1, 2, -2, 3, -3, 4, 7, 1000, most / 2, most/5 - 1, most / 5, most/5 + 1, most - 1, most, -most, most + 1, -most - 1,
		1 << 16, 1 << 31, 1 << 32, 1 << 48, 1 << 62, -1 << 32, math.MaxInt, -math.MaxInt, math.MinInt,
	}
	for _, a := range l {
		before := slices.Clone(a)
		for _, n := range numbers {
			want, f := scaled(a, n)
			got, e := radical.Scale(a, n)
			checkRadical(t, got, e, want, f, "Scale", a, n)
		}
		if !slices.Equal(a, before) {
			t.Errorf("Scale wrote to its argument %v", before)
		}
	}
	for name, bad := range invalid() {
		for _, n := range numbers {
			got, e := radical.Scale(bad, n)
			checkRadical(t, got, e, nil, api.ErrRadical, "Scale: "+name, n)
		}
	}
}

// Results are new lists: writing to them does not change the arguments.
func TestResultsAreNew(t *testing.T) {
	a := r(1, 2, 1, 3)
	for _, f := range []func() (api.Radical, api.Errno){
		func() (api.Radical, api.Errno) { return radical.Make(a) },
		func() (api.Radical, api.Errno) { return radical.Add(a, nil) },
		func() (api.Radical, api.Errno) { return radical.Add(nil, a) },
		func() (api.Radical, api.Errno) { return radical.Scale(a, 1) },
	} {
		got, e := f()
		if e != api.OK || len(got) != 2 {
			t.Fatalf("%v, error %d", got, e)
		}
		got[0].Times = 5
		if !slices.Equal(a, r(1, 2, 1, 3)) {
			t.Fatalf("a result shares memory with an argument")
		}
	}
}

func checkLength(t *testing.T, a, b api.Point) {
	t.Helper()
	x, y := a.X-b.X, a.Y-b.Y
	want, _ := made(r(1, x*x+y*y))
	got, e := radical.Length(a, b)
	checkRadical(t, got, e, want, api.OK, "Length", a, b)
}

func TestLength(t *testing.T) {
	for x := -12; x <= 12; x++ {
		for y := -12; y <= 12; y++ {
			checkLength(t, api.Point{}, api.Point{X: x, Y: y})
			checkLength(t, api.Point{X: 5, Y: -7}, api.Point{X: x, Y: y})
			checkLength(t, api.Point{X: x, Y: y}, api.Point{X: -3, Y: 2})
		}
	}
	places := []int{-1000000, -999999, 0, 1, 999983, 1000000}
	for _, x := range places {
		for _, y := range places {
			checkLength(t, api.Point{X: x, Y: y}, api.Point{X: x, Y: y})
			checkLength(t, api.Point{X: x, Y: y}, api.Point{X: 1000000, Y: -1000000})
		}
	}
	got, e := radical.Length(api.Point{X: -1000000, Y: -1000000}, api.Point{X: 1000000, Y: 1000000})
	checkRadical(t, got, e, r(2000000, 2), api.OK, "Length across the plane")
	got, e = radical.Length(api.Point{X: -1000000}, api.Point{X: 1000000})
	checkRadical(t, got, e, r(2000000, 1), api.OK, "Length along an axis")
}

func TestErrorsOfLength(t *testing.T) {
	for _, far := range []int{1000001, -1000001, 1 << 32, math.MaxInt, math.MinInt} {
		for _, a := range []api.Point{{X: far}, {Y: far}, {X: far, Y: far}, {X: 1000000, Y: far}, {X: far, Y: -1000000}} {
			for _, b := range []api.Point{{}, {X: 1000000, Y: -1000000}, a} {
				got, e := radical.Length(a, b)
				checkRadical(t, got, e, nil, api.ErrArg, "Length", a, b)
				got, e = radical.Length(b, a)
				checkRadical(t, got, e, nil, api.ErrArg, "Length", b, a)
			}
		}
	}
}

// P3.4

func checkEnclose(t *testing.T, l api.Radical, bits int) {
	t.Helper()
	before := slices.Clone(l)
	down, up := ends(l, bits)
	low, high, e := radical.Enclose(l, bits)
	if low != shareOf(over(down, bits)) || high != shareOf(over(up, bits)) || e != api.OK {
		t.Errorf("Enclose(%v, %d): %v, %v, error %d; want %v, %v", l, bits, low, high, e, over(down, bits), over(up, bits))
	}
	if !slices.Equal(l, before) {
		t.Errorf("Enclose wrote to its argument %v", before)
	}
}

func TestEnclose(t *testing.T) {
	for _, l := range []api.Radical{nil, r(1, 1), r(-5, 1), r(1, 2), r(-1, 2), r(7, 1, -3, 2, 4, 3), r(most, primeBelow(under)), r(-most, 1, -most, 2)} {
		for bits := range 401 {
			checkEnclose(t, l, bits)
		}
	}
	all := append(samples(60, 12), spanning(1, 200, most), spanning(1, 200, -most), spanning(1, 200, 1))
	for _, l := range all {
		for _, bits := range []int{0, 1, 2, 31, 32, 63, 64, 65, 127, 128, 184, 185, 255, 256, 399, 400} {
			checkEnclose(t, l, bits)
		}
	}
	for n := 1; n <= 400; n++ { // also integers next to the roots
		if squarePart(n) == 1 {
			for bits := range 5 {
				checkEnclose(t, r(1, n), bits)
				checkEnclose(t, r(-13, n), bits)
			}
		}
	}
	// The greatest numbers that there are: 200 terms of 10^15 times roots of nearly 10^13.
	checkEnclose(t, spanning(under-700, 200, most), 400)
	checkEnclose(t, spanning(under-700, 200, -most), 400)
}

func TestErrorsOfEnclose(t *testing.T) {
	check := func(l api.Radical, bits int, want api.Errno, name string) {
		t.Helper()
		low, high, e := radical.Enclose(l, bits)
		if low != (api.Share{}) || high != (api.Share{}) || e != want {
			t.Errorf("Enclose(%s, %d): %v, %v, error %d; want nothing, error %d", name, bits, low, high, e, want)
		}
	}
	bits := []int{-1, 401, -400, math.MinInt, math.MaxInt}
	for _, n := range bits {
		check(nil, n, api.ErrArg, "none")
		check(r(3, 1), n, api.ErrArg, "3")
		check(r(1, 2), n, api.ErrArg, "r(2)")
	}
	for name, bad := range invalid() {
		for _, n := range append(bits, 0, 1, 400) {
			check(bad, n, api.ErrRadical, name)
		}
	}
}

// P3.5

func checkCmp(t *testing.T, l api.Radical, a *big.Rat) {
	t.Helper()
	before := slices.Clone(l)
	want, f := compared(l, a)
	if got, e := radical.Cmp(l, shareOf(a)); got != want || e != f {
		t.Errorf("Cmp(%v, %v): %d, error %d; want %d, error %d", l, a, got, e, want, f)
	}
	if !slices.Equal(l, before) {
		t.Errorf("Cmp wrote to its argument %v", before)
	}
}

func TestCmp(t *testing.T) {
	l := append(samples(50, 6), r(1, 2), r(-1, 2), r(1, 1, 1, 2), r(1, 2, 1, 3), r(most, primeBelow(under)))
	for _, a := range l {
		for _, x := range []*big.Rat{new(big.Rat), big.NewRat(1, 3), big.NewRat(-1, 3), big.NewRat(most, 7), big.NewRat(-most, 7)} {
			checkCmp(t, a, x)
		}
		// At the ends of the enclosures, and a little beside them.
		for _, bits := range []int{0, 32, 64, 128, 256, 300, 400} {
			low, high := ends(a, bits)
			checkCmp(t, a, over(low, bits))
			checkCmp(t, a, over(high, bits))
			checkCmp(t, a, over(new(big.Int).Sub(low, big.NewInt(1)), bits))
			checkCmp(t, a, over(new(big.Int).Add(high, big.NewInt(1)), bits))
		}
	}
	for a, want := range map[string]int{"7/5": 1, "3/2": -1, "141421356237/100000000000": 1, "70710678119/50000000000": -1, "-2": 1, "1000000000000000000000": -1} {
		if got, e := radical.Cmp(r(1, 2), of(a)); got != want || e != api.OK {
			t.Errorf("Cmp(r(2), %s): %d, error %d; want %d", a, got, e, want)
		}
	}
}

// The last enclosure decides whether there is a result.
func TestCmpAtTheEndsOfAllEnclosures(t *testing.T) {
	for _, l := range []api.Radical{r(1, 2), r(-1, 2), r(-3, 5), r(-1, 1, 1, 2), r(1, 2, 1, 3), r(1, 2, -1, 3, 1, 5, -1, 7)} {
		low, high := ends(l, 400)
		for _, x := range []struct {
			a    *big.Rat
			want int
			e    api.Errno
		}{
			{beside(low, 400, 0), 0, api.ErrFail},
			{beside(low, 400, 1), 0, api.ErrFail},
			{beside(low, 400, -1), 1, api.OK},
			{beside(high, 400, 0), 0, api.ErrFail},
			{beside(high, 400, -1), 0, api.ErrFail},
			{beside(high, 400, 1), -1, api.OK},
			{over(new(big.Int).Sub(low, big.NewInt(1)), 400), 1, api.OK},
			{over(new(big.Int).Add(high, big.NewInt(1)), 400), -1, api.OK},
		} {
			if got, e := radical.Cmp(l, shareOf(x.a)); got != x.want || e != x.e {
				t.Errorf("Cmp(%v, %v): %d, error %d; want %d, error %d", l, x.a, got, e, x.want, x.e)
			}
		}
	}
}

func TestCmpOfIntegers(t *testing.T) {
	tiny := new(big.Rat).SetFrac(big.NewInt(1), new(big.Int).Lsh(big.NewInt(1), 460))
	for _, l := range []api.Radical{nil, {}, r(1, 1), r(-1, 1), r(-2, 1), r(most, 1), r(-most, 1)} {
		n := new(big.Rat)
		if len(l) > 0 {
			n.SetInt64(int64(l[0].Times))
		}
		for i, a := range []*big.Rat{new(big.Rat).Add(n, tiny), n, new(big.Rat).Sub(n, tiny)} {
			if got, e := radical.Cmp(l, shareOf(a)); got != i-1 || e != api.OK {
				t.Errorf("Cmp(%v, %v): %d, error %d; want %d", l, a, got, e, i-1)
			}
		}
		if got, e := radical.Sign(l); got != n.Sign() || e != api.OK {
			t.Errorf("Sign(%v): %d, error %d", l, got, e)
		}
	}
	least, greatest := api.Wide{7: 1 << 63}, api.Wide{7: 1<<63 - 1}
	for i := range 7 {
		greatest[i] = 1<<64 - 1
	}
	for _, x := range []struct {
		l    api.Radical
		a    api.Share
		want int
	}{
		{nil, api.Share{N: wide.Of(1), D: greatest}, -1},
		{nil, api.Share{N: wide.Of(-1), D: greatest}, 1},
		{r(1, 1), api.Share{N: least, D: wide.Of(1)}, 1},
		{r(-1, 1), api.Share{N: greatest, D: wide.Of(1)}, -1},
		{r(-1, 1), api.Share{N: least, D: greatest}, 1},
		{r(1, 2), api.Share{N: least, D: wide.Of(1)}, 1},
		{r(1, 2), api.Share{N: greatest, D: wide.Of(1)}, -1},
		{r(1, 2), api.Share{N: wide.Of(1), D: greatest}, 1},
	} {
		if got, e := radical.Cmp(x.l, x.a); got != x.want || e != api.OK {
			t.Errorf("Cmp(%v, %v): %d, error %d; want %d", x.l, x.a, got, e, x.want)
		}
	}
}

// unders are those of the radicals near 0 below.
var unders = []int{2, 3, 5, 6, 7, 10, 11, 13, 14, 15, 17}

// near returns the radical with these Times for the unders, multiplied by a factor.
func near(factor int, times ...int) api.Radical {
	var l api.Radical
	for i, n := range times {
		l = append(l, api.Term{Times: factor * n, Under: unders[i]})
	}
	return l
}

// Radicals near 0 were found by reducing lattices.
func TestSignOfRadicalsNearZero(t *testing.T) {
	for _, x := range []struct {
		name  string
		times []int
		want  int
		e     api.Errno
	}{
		{"about 2^-209", []int{119576, 189266, -377691, 30642, 293713, -993728, -57012, -142470, 1187238, 344904, -591147}, 1, api.OK},
		{"about -2^-272", []int{-59773299, -33708221, 45988891, 178691, -68391154, 25278319, 57476668, -44180480, 76608411, -38574335, -6772742}, -1, api.OK},
		{"about 2^-354", []int{11298220306, 22450656455, -6241324228, 8530647788, 416240424, 5802947175, 514067924, -12478925580, 9967023603, -10531586344, -8360536543}, 1, api.OK},
		{"from 4 to 15 2^-400", []int{195338815485, 190786235188, 407073641498, -240010288375, -243613259261, -119345215363, 249783376391, -80827829567, 86562399490, -149573864749, -45766387487}, 1, api.OK},
		{"from 1 to 12 2^-400", []int{253416008240, 170056677824, 93662736140, -11986846448, 88793768853, -175993374427, 326254446556, -17616694709, 1143208783422, -609561772082, -835925892566}, 1, api.OK},
		{"from 0 to 11 2^-400", []int{-87374318310, 16590979577, -515112704747, 283975994852, -509414784710, 99568926747, 645882172356, 56196894242, 305749593766, -164416785611, -307539018239}, 0, api.ErrFail},
		{"from -5 to 6 2^-400", []int{-340790326550, -153465698247, -608775440887, 295962841300, -598208553563, 275562301174, 319627725800, 73813588951, -837459189656, 445144986471, 528386874327}, 0, api.ErrFail},
		{"about 2^-439", []int{5380682822381, 8606351894414, -3260465871661, 3033828057612, -10006414046580, 4055723436769, 6078055305471, -89023629791, -3274733718736, -1630323128549, -2492811470238}, 0, api.ErrFail},
	} {
		for _, factor := range []int{1, -1} {
			l := near(factor, x.times...)
			if got, e := radical.Sign(l); got != factor*x.want || e != x.e {
				t.Errorf("Sign of %s, times %d: %d, error %d; want %d, error %d", x.name, factor, got, e, factor*x.want, x.e)
			}
			if got, e := radical.Cmp(l, of("0")); got != factor*x.want || e != x.e {
				t.Errorf("Cmp of %s, times %d, with 0: %d, error %d; want %d, error %d", x.name, factor, got, e, factor*x.want, x.e)
			}
			l = append(r(7, 1), l...)
			if got, e := radical.Cmp(l, of("7")); got != factor*x.want || e != x.e {
				t.Errorf("Cmp of 7 and %s, times %d, with 7: %d, error %d; want %d, error %d", x.name, factor, got, e, factor*x.want, x.e)
			}
			checkCmp(t, l, big.NewRat(7, 1))
		}
	}
}

func TestSign(t *testing.T) {
	for _, l := range append(samples(200, 6), spanning(1, 200, most), spanning(1, 200, -1), r(1, primeBelow(under)), r(-1, 2)) {
		want, f := compared(l, new(big.Rat))
		if got, e := radical.Sign(l); got != want || e != f {
			t.Errorf("Sign(%v): %d, error %d; want %d, error %d", l, got, e, want, f)
		}
	}
	// The root of n + 1 is greater than that of n, and 3 times the root of 2 is between 4 and 5.
	for n := 2; n < 100; n++ {
		if squarePart(n)*squarePart(n+1) == 1 {
			if got, e := radical.Sign(r(1, n, -1, n+1)); got != -1 || e != api.OK {
				t.Errorf("Sign(r(%d) - r(%d)): %d, error %d", n, n+1, got, e)
			}
		}
	}
	for n, want := range map[int]int{-4: 1, -5: -1} {
		if got, e := radical.Sign(r(n, 1, 3, 2)); got != want || e != api.OK {
			t.Errorf("Sign(%d + 3 r(2)): %d, error %d", n, got, e)
		}
	}
}

func TestErrorsOfSignAndCmp(t *testing.T) {
	check := func(got int, e, want api.Errno, call string) {
		t.Helper()
		if got != 0 || e != want {
			t.Errorf("%s: %d, error %d; want 0, error %d", call, got, e, want)
		}
	}
	notValid := []api.Share{{}, {N: wide.Of(1)}, {N: wide.Of(2), D: wide.Of(4)}, {D: wide.Of(2)}, {N: wide.Of(1), D: wide.Of(-1)}, {D: api.Wide{7: 1 << 63}}}
	for name, bad := range invalid() {
		got, e := radical.Sign(bad)
		check(got, e, api.ErrRadical, "Sign: "+name)
		for _, a := range append(notValid, of("0"), of("1"), of("-7/5")) {
			got, e = radical.Cmp(bad, a)
			check(got, e, api.ErrRadical, "Cmp: "+name)
		}
	}
	for _, a := range notValid {
		for _, l := range []api.Radical{nil, r(1, 1), r(-1, 2), spanning(1, 200, 1)} {
			got, e := radical.Cmp(l, a)
			check(got, e, api.ErrShare, "Cmp with a share that is not valid")
		}
	}
}

// P3.6

func TestEnclosuresLieWithinEachOther(t *testing.T) {
	for _, l := range append(samples(30, 8), r(1, 2), r(-1, 1, 1, 2), spanning(1, 200, -3)) {
		var low, high api.Share
		power := of("1")
		for bits := 0; bits <= 400; bits += 20 {
			nextLow, nextHigh, e := radical.Enclose(l, bits)
			if e != api.OK {
				t.Fatalf("Enclose(%v, %d): error %d", l, bits, e)
			}
			width, _ := share.Sub(nextHigh, nextLow)
			widest, _ := share.Of(len(l), 1)
			widest, _ = share.Div(widest, power)
			if order, _ := share.Cmp(width, widest); order > 0 {
				t.Errorf("Enclose(%v, %d) is too wide", l, bits)
			}
			if bits > 0 {
				lower, _ := share.Cmp(nextLow, low)
				higher, _ := share.Cmp(nextHigh, high)
				if lower < 0 || higher > 0 {
					t.Errorf("Enclose(%v, %d) does not lie within that of %d bits", l, bits, bits-20)
				}
			}
			low, high = nextLow, nextHigh
			power, _ = share.Mul(power, of("1048576"))
		}
	}
}

// between says whether b lies between a and c.
func between(a, b, c api.Point) bool {
	cross := (b.X-a.X)*(c.Y-a.Y) - (b.Y-a.Y)*(c.X-a.X)
	return cross == 0 && (b.X-a.X)*(b.X-c.X)+(b.Y-a.Y)*(b.Y-c.Y) <= 0
}

func TestDistancesObeyTheTriangleInequality(t *testing.T) {
	source := rand.New(rand.NewSource(8))
	point := func(limit int) api.Point {
		return api.Point{X: source.Intn(2*limit+1) - limit, Y: source.Intn(2*limit+1) - limit}
	}
	for i := range 3000 {
		limit := 4
		if i%10 == 0 {
			limit = api.MaxPlace
		}
		a, b, c := point(limit), point(limit), point(limit)
		ab, _ := radical.Length(a, b)
		bc, _ := radical.Length(b, c)
		ac, _ := radical.Length(a, c)
		way, _ := radical.Add(ab, bc)
		opposite, _ := radical.Scale(ac, -1)
		more, e := radical.Add(way, opposite)
		sign, f := radical.Sign(more)
		want := 1
		if between(a, b, c) {
			want = 0
		}
		if sign != want || e != api.OK || f != api.OK || radical.Same(way, ac) != (want == 0) {
			t.Errorf("the way from %v by %v to %v is longer by %v, the sign of which is %d, errors %d and %d", a, b, c, more, sign, e, f)
		}
	}
}

func TestSquarePartsOfSquares(t *testing.T) {
	for n := 1; n <= 3162277; n += 1 + n/50 {
		got, e := radical.Make(r(1, n*n))
		checkRadical(t, got, e, r(n, 1), api.OK, "Make of the root of a square", n)
	}
}
