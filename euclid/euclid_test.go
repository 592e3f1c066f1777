package euclid_test

import (
	"math/big"
	"math/rand"
	"slices"
	"testing"

	"wardmote/euclid"
)

// value returns what a line stands for.
func value(l euclid.Line, m, n *big.Int) *big.Int {
	ofM := new(big.Int).Mul(new(big.Int).SetUint64(l.OfM), m)
	ofN := new(big.Int).Mul(new(big.Int).SetUint64(l.OfN), n)
	if l.Negated {
		return ofN.Sub(ofN, ofM)
	}
	return ofM.Sub(ofM, ofN)
}

// remainders returns m, n, and all remainders of Euclid's algorithm from them on.
func remainders(m, n *big.Int) []*big.Int {
	l := []*big.Int{m, n}
	for n.Sign() > 0 {
		m, n = n, new(big.Int).Mod(m, n)
		l = append(l, n)
	}
	return l
}

// checkLines expects two remainders, one behind the other, of numbers with more words below a and b; and returns how
// many steps were taken.
func checkLines(t *testing.T, a, b uint64, below [2]*big.Int) int {
	t.Helper()
	first, second := euclid.Lines(a, b)
	if first.OfN == 0 {
		return 0
	}
	long := func(word uint64, below *big.Int) *big.Int {
		n := new(big.Int).SetUint64(word)
		return n.Or(n.Lsh(n, 128), below)
	}
	m, n := long(a, below[0]), long(b, below[1])
	l := remainders(m, n)
	at := slices.IndexFunc(l, func(x *big.Int) bool { return x.Cmp(value(first, m, n)) == 0 })
	if at < 1 || at+1 == len(l) || l[at+1].Cmp(value(second, m, n)) != 0 {
		t.Errorf("Lines(%x, %x), with %x below: %v and %v are no remainders", a, b, below, first, second)
	}
	return at
}

// belows are words below the leading ones: the least, the greatest and others.
func belows(r *rand.Rand) [][2]*big.Int {
	end := new(big.Int).Lsh(big.NewInt(1), 128)
	least, most := new(big.Int), new(big.Int).Sub(end, big.NewInt(1))
	return [][2]*big.Int{{least, least}, {least, most}, {most, least}, {most, most}, {new(big.Int).Rand(r, end), new(big.Int).Rand(r, end)}}
}

func TestLines(t *testing.T) {
	r := rand.New(rand.NewSource(1))
	steps, count := 0, 0
	for range 1000 {
		a, b := r.Uint64()|1<<63, r.Uint64()
		for _, below := range belows(r) {
			steps += checkLines(t, max(a, b), min(a, b), below)
			count++
			checkLines(t, a, b>>(1+r.Intn(63)), below)
		}
	}
	// Lines that trust the words less would be right, too, but slow.
	if steps < 15*count {
		t.Errorf("%d steps were taken for %d numbers", steps, count)
	}
}

func TestLinesAtLimits(t *testing.T) {
	r := rand.New(rand.NewSource(2))
	const golden = 11400714819323198485 // 2^64 times less than one, by the golden ratio: all quotients are 1
	for _, a := range []uint64{1 << 63, 1<<63 + 1, 1<<64 - 2, 1<<64 - 1, golden, 3 << 62} {
		for _, b := range []uint64{0, 1, 2, 3, 1<<32 - 1, 1 << 32, 1<<32 + 1, a / 3, a/2 - 1, a / 2, a/2 + 1, 1<<63 - 1, 1 << 63, golden, a - 1, a} {
			for _, below := range belows(r) {
				// Both must begin with the words; where these are equal, the rest decides which number is not less.
				if b < a || b == a && below[0].Cmp(below[1]) >= 0 {
					checkLines(t, a, b, below)
				}
			}
		}
	}
}

func TestLinesThatTellNothing(t *testing.T) {
	for _, x := range [][2]uint64{{1 << 63, 0}, {1<<64 - 1, 1<<64 - 1}} {
		if first, _ := euclid.Lines(x[0], x[1]); first.OfN != 0 {
			t.Errorf("Lines(%x, %x) tells %v", x[0], x[1], first)
		}
	}
}
