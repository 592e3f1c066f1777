package chance_test

import (
	"math"
	"math/big"
	"slices"
	"testing"

	"wardmote/api"
	"wardmote/chance"
	"wardmote/share"
	"wardmote/wide"
)

var (
	zero  api.Chance
	other = api.Chance{State: 4711} // an error does not return this state
)

// The chapter's examples.
func TestExamples(t *testing.T) {
	c := zero
	for _, want := range []uint64{0xe220a8397b1dcdaf, 0x6e789e6aa1b965f4, 0x06c45d188009454f} {
		var x uint64
		if x, c = chance.Next(c); x != want {
			t.Errorf("the next number is %x; want %x", x, want)
		}
	}
	for _, x := range []struct{ n, want int }{{10, 5}, {1, 0}} {
		if got, _, e := chance.Below(zero, x.n); got != x.want || e != api.OK {
			t.Errorf("Below(%d): %d, error %d; want %d", x.n, got, e, x.want)
		}
	}
	if got, c, e := chance.Wide(zero, wide.Of(1)); got != wide.Of(0) || c != zero || e != api.OK {
		t.Errorf("Wide(1): %v, %v, error %d", got, c, e)
	}
	if got, _, e := chance.Wide(zero, wide.Of(16)); got != wide.Of(15) || e != api.OK {
		t.Errorf("Wide(16): %v, error %d", got, e)
	}
	if got, _, e := chance.Pick(zero, wides(0, 5, 0)); got != 1 || e != api.OK {
		t.Errorf("Pick(0, 5, 0): %d, error %d", got, e)
	}
	if got, _, e := chance.Coin(zero, half(t)); got || e != api.OK {
		t.Errorf("Coin(1/2): %t, error %d", got, e)
	}
	if got, _, e := chance.Shuffle(zero, 1); !slices.Equal(got, []int{0}) || e != api.OK {
		t.Errorf("Shuffle(1): %v, error %d", got, e)
	}
}

func half(t *testing.T) api.Share {
	p, e := share.Of(1, 2)
	if e != api.OK {
		t.Fatal(e)
	}
	return p
}

// P4.1

func TestNextKnown(t *testing.T) {
	// The first numbers of two states, as they are published for this generator.
	for _, x := range []struct {
		state uint64
		want  []uint64
	}{
		{0, []uint64{0xe220a8397b1dcdaf, 0x6e789e6aa1b965f4, 0x06c45d188009454f, 0xf88bb8a8724c81ec, 0x1b39896a51a8749b}},
		{1234567, []uint64{6457827717110365317, 3203168211198807973, 9817491932198370423, 4593380528125082431, 16408922859458223821}},
	} {
		c := api.Chance{State: x.state}
		for i, want := range x.want {
			var got uint64
			if got, c = chance.Next(c); got != want {
				t.Errorf("number %d of the state %d: %x; want %x", i, x.state, got, want)
			}
			// The state that is passed on is a multiple of one number further.
			if step := uint64(0x9e3779b97f4a7c15); c.State != x.state+uint64(i+1)*step {
				t.Errorf("state behind number %d of the state %d: %x", i, x.state, c.State)
			}
		}
	}
}

func TestNext(t *testing.T) {
	for _, c := range states(2000) {
		s := secondOf(c)
		want := s.next().Uint64()
		if got, behind := chance.Next(c); got != want || behind != s.state() {
			t.Errorf("Next(%x): %x, state %x; want %x, state %x", c.State, got, behind.State, want, s.state().State)
		}
	}
	for _, x := range []uint64{0, 1, 1 << 63, 1<<64 - 1} {
		if got, _ := chance.Next(before(x)); got != x {
			t.Errorf("the number before which the state %x is: %x; want %x", before(x).State, got, x)
		}
	}
}

func TestSplit(t *testing.T) {
	labels := []int{0, 1, 2, 3, -1, -2, 400, math.MaxInt, math.MinInt, math.MinInt + 1, 0x1e220a8397b1dcda}
	for _, c := range states(100) {
		seen := map[api.Chance]bool{}
		for _, label := range labels {
			mark := (&second{at: new(big.Int).Mod(big.NewInt(int64(label)), power(64))}).next()
			mark.Xor(mark, new(big.Int).SetUint64(c.State))
			want := api.Chance{State: (&second{at: mark}).next().Uint64()}
			got := chance.Split(c, label)
			if got != want {
				t.Errorf("Split(%x, %d): %x; want %x", c.State, label, got.State, want.State)
			}
			if seen[got] {
				t.Errorf("Split(%x, %d): %x, as for a label before", c.State, label, got.State)
			}
			seen[got] = true
		}
	}
}

func TestSplitKnown(t *testing.T) {
	// The label 0 has the mark e220a8397b1dcdaf: with this state, the numbers xor to 0.
	if got := chance.Split(api.Chance{State: 0xe220a8397b1dcdaf}, 0); got.State != 0xe220a8397b1dcdaf {
		t.Errorf("Split: %x", got.State)
	}
	// The label -1 is the state 2^64 - 1.
	mark, _ := chance.Next(api.Chance{State: 1<<64 - 1})
	if got := chance.Split(api.Chance{State: mark ^ 1234567}, -1); got.State != 6457827717110365317 {
		t.Errorf("Split: %d", got.State)
	}
}

// P4.2

// checkBelow compares Below with the second generator, and returns how many numbers were taken.
func checkBelow(t *testing.T, c api.Chance, n int) int {
	t.Helper()
	s := secondOf(c)
	want := s.below(n)
	if got, behind, e := chance.Below(c, n); got != want || behind != s.state() || e != api.OK {
		t.Errorf("Below(%x, %d): %d, state %x, error %d; want %d, state %x", c.State, n, got, behind.State, e, want, s.state().State)
	}
	return s.taken
}

func TestBelow(t *testing.T) {
	limits := []int{1, 2, 3, 5, 6, 7, 10, 16, 100, 399, 400, 1<<31 - 1, 1 << 32, 1<<32 + 1, 1<<61 - 1, 1<<62 - 1, 1 << 62, 1<<62 + 1, math.MaxInt/3*2 + 3, math.MaxInt - 1, math.MaxInt}
	for _, c := range states(200) {
		for _, n := range limits {
			checkBelow(t, c, n)
		}
	}
}

func TestBelowTakesOneNumberForOne(t *testing.T) {
	x, behind, e := chance.Below(other, 1)
	if _, want := chance.Next(other); x != 0 || behind != want || e != api.OK {
		t.Errorf("Below(1): %d, state %x, error %d; want the state %x", x, behind.State, e, want.State)
	}
}

func TestBelowPassesNumbersOver(t *testing.T) {
	for _, x := range []struct {
		n     int
		first uint64
		taken int // numbers, where the second one is taken for sure
		want  int
	}{
		{math.MaxInt, 1<<64 - 3, 1, math.MaxInt - 1}, // 2 (2^63 - 1) is 2^64 - 2
		{math.MaxInt, 1<<64 - 2, 2, -1},
		{math.MaxInt, 1<<64 - 1, 2, -1},
		{1 << 62, 1<<64 - 1, 1, 1<<62 - 1}, // no number is passed over
		{1, 1<<64 - 1, 1, 0},
		{2, 1<<64 - 1, 1, 1},
		{3, 1<<64 - 2, 1, 2},
		{3, 1<<64 - 1, 2, -1},
		{10, 1<<64 - 7, 1, 9},
		{10, 1<<64 - 6, 2, -1},
		{10, 1<<64 - 1, 2, -1},
		{1<<62 + 1, 3<<62 + 2, 1, 1 << 62},
		{1<<62 + 1, 3<<62 + 3, 2, -1},
	} {
		c := before(x.first)
		if taken := checkBelow(t, c, x.n); taken < x.taken || x.taken == 1 && taken > 1 {
			t.Errorf("Below(%d) from the number %x: %d numbers taken; want %d", x.n, x.first, taken, x.taken)
		}
		if got, _, _ := chance.Below(c, x.n); x.want >= 0 && got != x.want {
			t.Errorf("Below(%d) from the number %x: %d; want %d", x.n, x.first, got, x.want)
		}
	}
	// A third of all numbers is passed over, so that some draws take many.
	most := 0
	for _, c := range states(3000) {
		most = max(most, checkBelow(t, c, math.MaxInt/3*2+2))
	}
	if most < 5 {
		t.Errorf("the test is wrong: at most %d numbers were taken", most)
	}
}

func TestErrorsOfBelow(t *testing.T) {
	for _, n := range []int{0, -1, -10, math.MinInt, math.MinInt + 1} {
		for _, c := range []api.Chance{zero, other} {
			x, behind, e := chance.Below(c, n)
			checkError(t, x, behind, e, api.ErrArg, "Below", c, n)
		}
	}
}

// checkWide compares Wide with the second generator, and returns how many numbers were taken.
func checkWide(t *testing.T, c api.Chance, n *big.Int) int {
	t.Helper()
	s := secondOf(c)
	want := s.wide(n)
	if got, behind, e := chance.Wide(c, wideOf(n)); bigOf(got).Cmp(want) != 0 || behind != s.state() || e != api.OK {
		t.Errorf("Wide(%x, %v): %v, state %x, error %d; want %v, state %x", c.State, n, bigOf(got), behind.State, e, want, s.state().State)
	}
	return s.taken
}

func TestWide(t *testing.T) {
	for i, c := range states(40) {
		for k := uint(0); k < 511; k += 1 + uint(i)%3 {
			n := power(k)
			// A power of 2 needs one candidate, and one more needs a digit more.
			if taken := checkWide(t, c, n); taken != int(k+63)/64 {
				t.Errorf("Wide(2^%d): %d numbers taken", k, taken)
			}
			checkWide(t, c, plus(n, 1))
			checkWide(t, c, new(big.Int).Quo(plus(new(big.Int).Mul(n, big.NewInt(4)), 2), big.NewInt(3)))
			if k > 0 {
				checkWide(t, c, plus(n, -1))
			}
		}
		checkWide(t, c, bigOf(greatest))
		checkWide(t, c, plus(bigOf(greatest), -1))
	}
}

func TestWideTakesNoNumberForOne(t *testing.T) {
	if x, behind, e := chance.Wide(other, wide.Of(1)); x != (api.Wide{}) || behind != other || e != api.OK {
		t.Errorf("Wide(1): %v, state %x, error %d", x, behind.State, e)
	}
}

func TestWidePassesCandidatesOver(t *testing.T) {
	for _, length := range []int{1, 2, 5, 63, 64, 65, 128, 129, 200, 448, 510, 511} {
		for _, c := range states(30) {
			s := secondOf(c)
			x := s.candidate(length)
			if x.BitLen() < length || plus(x, -1).BitLen() < length {
				continue
			}
			// A limit of the first candidate passes it over; one more takes it, if it is a wide integer.
			numbers := s.taken
			if taken := checkWide(t, c, x); taken < 2*numbers {
				t.Errorf("Wide(%x, %v): %d numbers taken", c.State, x, taken)
			}
			if n := plus(x, 1); n.BitLen() < 512 {
				if taken := checkWide(t, c, n); taken != numbers {
					t.Errorf("Wide(%x, %v): %d numbers taken", c.State, n, taken)
				}
			}
		}
	}
}

func TestErrorsOfWide(t *testing.T) {
	for _, n := range []api.Wide{wide.Of(0), wide.Of(-1), wide.Of(math.MinInt), least} {
		for _, c := range []api.Chance{zero, other} {
			x, behind, e := chance.Wide(c, n)
			checkError(t, x, behind, e, api.ErrArg, "Wide", c, bigOf(n))
		}
	}
}

// P4.3

func TestShuffle(t *testing.T) {
	for _, n := range []int{0, 1, 2, 3, 4, 5, 10, 64, 399, 400} {
		for _, c := range states(20) {
			s := secondOf(c)
			want := s.shuffle(n)
			got, behind, e := chance.Shuffle(c, n)
			if !slices.Equal(got, want) || behind != s.state() || e != api.OK {
				t.Errorf("Shuffle(%x, %d): %v, state %x, error %d; want %v, state %x", c.State, n, got, behind.State, e, want, s.state().State)
			}
		}
	}
}

func TestShuffleOfOneOrNoneTakesNoNumber(t *testing.T) {
	for _, n := range []int{0, 1} {
		if l, behind, e := chance.Shuffle(other, n); len(l) != n || behind != other || e != api.OK {
			t.Errorf("Shuffle(%d): %v, state %x, error %d", n, l, behind.State, e)
		}
	}
}

func TestErrorsOfShuffle(t *testing.T) {
	if api.ChanceMost != 400 {
		t.Fatalf("ChanceMost is %d", api.ChanceMost)
	}
	for _, n := range []int{-1, 401, math.MinInt, math.MaxInt} {
		if l, behind, e := chance.Shuffle(other, n); len(l) > 0 || behind != zero || e != api.ErrArg {
			t.Errorf("Shuffle(%d): %v, state %x, error %d", n, l, behind.State, e)
		}
	}
}

// P4.4

func TestPick(t *testing.T) {
	half, _, _ := wide.Div(greatest, wide.Of(2))
	for _, weights := range [][]api.Wide{
		wides(1), wides(7), wides(1, 1), wides(0, 1), wides(1, 0), wides(1, 2, 3), wides(3, 0, 0, 2, 0, 4, 0), wides(0, 0, 1, 0, 0, 1, 0, 0),
		wides(math.MaxInt, math.MaxInt, math.MaxInt), {greatest}, {{}, greatest, {}}, {half, half, wide.Of(1)}, {{1: 1}, {2: 1}, {3: 1}, {}, {2: 3}},
		slices.Repeat(wides(1), 400), append(slices.Repeat(wides(0), 399), wide.Of(5)), slices.Repeat(wides(0, 1, 1000, 30), 100),
	} {
		seen := map[int]bool{}
		for _, c := range states(300) {
			s := secondOf(c)
			want := s.pick(weights)
			kept := slices.Clone(weights)
			got, behind, e := chance.Pick(c, weights)
			if got != want || behind != s.state() || e != api.OK {
				t.Errorf("Pick(%x, %v): %d, state %x, error %d; want %d, state %x", c.State, weights, got, behind.State, e, want, s.state().State)
			}
			if !slices.Equal(weights, kept) {
				t.Errorf("Pick wrote to %v", kept)
			}
			seen[got] = true
		}
		checkSeen(t, weights, seen)
	}
}

// checkSeen expects that all indices of short lists of small weights were picked.
func checkSeen(t *testing.T, weights []api.Wide, seen map[int]bool) {
	t.Helper()
	for i, w := range weights {
		if n, e := wide.Int(w); len(weights) < 10 && e == api.OK && (n > 0 && n < 10) && !seen[i] && wide.Cmp(weights[0], wide.Of(10)) < 0 {
			t.Errorf("Pick(%v): never %d", weights, i)
		}
	}
}

func TestPickAtTheBorders(t *testing.T) {
	// 16 numbers, so that the lowest digits of the first one choose the index.
	weights := wides(0, 3, 0, 5, 7, 1, 0)
	for x, want := range []int{1, 1, 1, 3, 3, 3, 3, 3, 4, 4, 4, 4, 4, 4, 4, 5} {
		for _, rest := range []uint64{0, 0x7ffffffffffffff0, 0xfffffffffffffff0} {
			if got, _, e := chance.Pick(before(rest+uint64(x)), weights); got != want || e != api.OK {
				t.Errorf("Pick at %d: %d, error %d; want %d", x, got, e, want)
			}
		}
	}
}

func TestErrorsOfPick(t *testing.T) {
	many := func(n int) []api.Wide { return slices.Repeat(wides(1), 400+n) }
	for _, x := range []struct {
		name    string
		weights []api.Wide
		want    api.Errno
	}{
		{"none", nil, api.ErrZero},
		{"none", []api.Wide{}, api.ErrZero},
		{"0", wides(0), api.ErrZero},
		{"0, 0, 0", wides(0, 0, 0), api.ErrZero},
		{"400 of 0", slices.Repeat(wides(0), 400), api.ErrZero},
		{"400", many(0), api.OK},
		{"401", many(1), api.ErrLong},
		{"401 of 0", slices.Repeat(wides(0), 401), api.ErrLong},
		{"401 of -1", slices.Repeat(wides(-1), 401), api.ErrLong},
		{"401 of the greatest", slices.Repeat([]api.Wide{greatest}, 401), api.ErrLong},
		{"-1", wides(-1), api.ErrArg},
		{"1, -1", wides(1, -1), api.ErrArg},
		{"0, -1, 2", wides(0, -1, 2), api.ErrArg},
		{"least", []api.Wide{least}, api.ErrArg},
		{"400, the last negative", append(many(-1), wide.Of(-1)), api.ErrArg},
		{"too great, then negative", []api.Wide{greatest, greatest, wide.Of(-1)}, api.ErrArg},
		{"too great, but not with the negative one", []api.Wide{greatest, wide.Of(1), wide.Of(-1)}, api.ErrArg},
		{"greatest and 0", []api.Wide{greatest, {}}, api.OK},
		{"greatest and 1", []api.Wide{greatest, wide.Of(1)}, api.ErrBig},
		{"1, 0 and greatest", []api.Wide{wide.Of(1), {}, greatest}, api.ErrBig},
		{"2^510 twice", []api.Wide{{7: 1 << 62}, {7: 1 << 62}}, api.ErrBig},
		{"2^510 four times", slices.Repeat([]api.Wide{{7: 1 << 62}}, 4), api.ErrBig},
		{"400 of the greatest", slices.Repeat([]api.Wide{greatest}, 400), api.ErrBig},
	} {
		for _, c := range []api.Chance{zero, other} {
			got, behind, e := chance.Pick(c, x.weights)
			if x.want != api.OK {
				checkError(t, got, behind, e, x.want, "Pick", x.name)
			} else if e != api.OK {
				t.Errorf("Pick(%s): error %d", x.name, e)
			}
		}
	}
}

// shareOf returns n / d in lowest terms.
func shareOf(t *testing.T, n, d *big.Int) api.Share {
	t.Helper()
	p, e := share.Make(wideOf(n), wideOf(d))
	if e != api.OK {
		t.Fatal(n, d, e)
	}
	return p
}

func TestCoin(t *testing.T) {
	var probabilities []api.Share
	for d := int64(1); d <= 17; d++ {
		for n := int64(0); n <= d; n++ {
			probabilities = append(probabilities, shareOf(t, big.NewInt(n), big.NewInt(d)))
		}
	}
	for _, k := range []uint{63, 64, 65, 200, 510} {
		n := power(k)
		probabilities = append(probabilities,
			shareOf(t, big.NewInt(1), n), shareOf(t, plus(n, -1), n), shareOf(t, plus(power(k-1), 1), n), shareOf(t, plus(power(k-2), 1), plus(n, -1)))
	}
	probabilities = append(probabilities, shareOf(t, power(510), bigOf(greatest)), shareOf(t, big.NewInt(1), bigOf(greatest)))
	for _, p := range probabilities {
		for _, c := range states(100) {
			s := secondOf(c)
			want := s.wide(bigOf(p.D)).Cmp(bigOf(p.N)) < 0
			if got, behind, e := chance.Coin(c, p); got != want || behind != s.state() || e != api.OK {
				t.Errorf("Coin(%x, %v / %v): %t, state %x, error %d; want %t, state %x", c.State, bigOf(p.N), bigOf(p.D), got, behind.State, e, want, s.state().State)
			}
		}
	}
}

func TestCoinAtTheBorders(t *testing.T) {
	p := shareOf(t, big.NewInt(5), big.NewInt(16))
	for x := range uint64(16) {
		for _, rest := range []uint64{0, 0x7ffffffffffffff0, 0xfffffffffffffff0} {
			if got, _, e := chance.Coin(before(rest+x), p); got != (x < 5) || e != api.OK {
				t.Errorf("Coin(5/16) at %d: %t, error %d", x, got, e)
			}
		}
	}
}

func TestErrorsOfCoin(t *testing.T) {
	of := func(n, d api.Wide) api.Share { return api.Share{N: n, D: d} }
	for _, x := range []struct {
		p    api.Share
		want api.Errno
	}{
		{api.Share{}, api.ErrShare},
		{of(wide.Of(1), wide.Of(0)), api.ErrShare},
		{of(wide.Of(2), wide.Of(4)), api.ErrShare},
		{of(wide.Of(0), wide.Of(2)), api.ErrShare},
		{of(wide.Of(3), wide.Of(3)), api.ErrShare},
		{of(wide.Of(-1), wide.Of(-2)), api.ErrShare},
		{of(wide.Of(1), least), api.ErrShare},
		{of(wide.Of(6), wide.Of(4)), api.ErrShare}, // above 1 as well
		{of(wide.Of(-2), wide.Of(4)), api.ErrShare},
		{of(wide.Of(-1), wide.Of(2)), api.ErrArg},
		{of(wide.Of(-1), wide.Of(1)), api.ErrArg},
		{of(least, wide.Of(1)), api.ErrArg},
		{of(wide.Of(-1), greatest), api.ErrArg},
		{of(wide.Of(3), wide.Of(2)), api.ErrArg},
		{of(wide.Of(2), wide.Of(1)), api.ErrArg},
		{of(greatest, wide.Of(1)), api.ErrArg},
		{of(greatest, wideOf(plus(bigOf(greatest), -1))), api.ErrArg},
	} {
		for _, c := range []api.Chance{zero, other} {
			got, behind, e := chance.Coin(c, x.p)
			checkError(t, got, behind, e, x.want, "Coin", bigOf(x.p.N), bigOf(x.p.D))
		}
	}
}

// P4.5

func TestSameStateSameResult(t *testing.T) {
	p := shareOf(t, big.NewInt(3), big.NewInt(7))
	weights := wides(3, 0, 1, 9)
	for _, c := range states(50) {
		a, behindA, _ := chance.Pick(c, weights)
		b, behindB, _ := chance.Pick(c, slices.Clone(weights))
		if a != b || behindA != behindB {
			t.Errorf("Pick(%x): %d, %x, and then %d, %x", c.State, a, behindA.State, b, behindB.State)
		}
		h, behindH, _ := chance.Coin(c, p)
		g, behindG, _ := chance.Coin(c, p)
		if h != g || behindH != behindG {
			t.Errorf("Coin(%x) differs from call to call", c.State)
		}
		// A list that the caller writes to is not the next one.
		l, behindL, _ := chance.Shuffle(c, 30)
		kept := slices.Clone(l)
		clear(l)
		m, behindM, _ := chance.Shuffle(c, 30)
		if !slices.Equal(kept, m) || behindL != behindM {
			t.Errorf("Shuffle(%x) differs from call to call", c.State)
		}
	}
}

func TestShuffledListHasEachNumberOnce(t *testing.T) {
	for _, c := range states(10) {
		for n := range 401 {
			l, _, e := chance.Shuffle(c, n)
			if e != api.OK {
				t.Fatalf("Shuffle(%d): error %d", n, e)
			}
			slices.Sort(l)
			for i, x := range l {
				if x != i || len(l) != n {
					t.Fatalf("Shuffle(%d) has %v, sorted", n, l)
				}
			}
		}
	}
}

func TestPickedWeightsAreAboveZero(t *testing.T) {
	weights := wides(0, 1, 0, 0, 2, 0, 0, 0, 1, 0)
	c := zero
	for range 2000 {
		var i int
		var e api.Errno
		if i, c, e = chance.Pick(c, weights); e != api.OK || wide.Sign(weights[i]) < 1 {
			t.Fatalf("Pick: %d, error %d", i, e)
		}
	}
}

func TestCoinsThatAreSure(t *testing.T) {
	for _, c := range states(50) {
		for n := range 2 {
			p := api.Share{N: wide.Of(n), D: wide.Of(1)}
			if got, behind, e := chance.Coin(c, p); got != (n == 1) || behind != c || e != api.OK {
				t.Errorf("Coin(%x, %d): %t, state %x, error %d", c.State, n, got, behind.State, e)
			}
		}
	}
}
