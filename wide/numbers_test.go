package wide_test

import (
	"math/big"
	"math/rand"
	"testing"

	"wardmote/api"
	"wardmote/wide"
)

// The tests compare package wide with math/big.

var (
	least    = api.Wide{7: 1 << 63}
	greatest = api.Wide{ones, ones, ones, ones, ones, ones, ones, ones >> 1}
)

const ones = 1<<64 - 1

// bigOf returns the integer that the chapter's Terms give to the words of a.
func bigOf(a api.Wide) *big.Int {
	n := new(big.Int)
	for i := len(a) - 1; i >= 0; i-- {
		n.Lsh(n, 64)
		n.Add(n, new(big.Int).SetUint64(a[i]))
	}
	if a[7] >= 1<<63 {
		n.Sub(n, power(2, 512))
	}
	return n
}

// wideOf returns the wide integer n, or ErrBig.
func wideOf(n *big.Int) (a api.Wide, e api.Errno) {
	limit := power(2, 511)
	if n.Cmp(limit) >= 0 || n.Cmp(new(big.Int).Neg(limit)) < 0 {
		return a, api.ErrBig
	}
	rest := new(big.Int).Mod(n, power(2, 512))
	word := power(2, 64)
	for i := range a {
		a[i] = new(big.Int).Mod(rest, word).Uint64()
		rest.Div(rest, word)
	}
	return a, api.OK
}

func power(base, n int64) *big.Int {
	return new(big.Int).Exp(big.NewInt(base), big.NewInt(n), nil)
}

// edges are the numbers next to powers of two at the borders of words, with both signs.
func edges() []api.Wide {
	l := []api.Wide{least, greatest}
	for _, n := range []int64{0, 1, 2, 31, 32, 63, 64, 65, 127, 128, 254, 255, 256, 257, 448, 509, 510, 511} {
		for d := int64(-2); d <= 2; d++ {
			m := power(2, n)
			m.Add(m, big.NewInt(d))
			for range 2 {
				if a, e := wideOf(m); e == api.OK {
					l = append(l, a)
				}
				m.Neg(m)
			}
		}
	}
	return l
}

// samples are numbers of all lengths and signs; half of them have words at their limits, which lead long division to
// its rare cases.
func samples(count int) []api.Wide {
	r := rand.New(rand.NewSource(1))
	limits := []uint64{0, 1, 2, 1<<63 - 1, 1 << 63, 1<<63 + 1, ones - 1, ones}
	var l []api.Wide
	for i := range count {
		var a api.Wide
		for k := range 1 + r.Intn(8) {
			a[k] = r.Uint64() >> r.Intn(64)
			if i%2 == 0 {
				a[k] = limits[r.Intn(len(limits))]
			}
		}
		if r.Intn(2) == 0 && a != least {
			a, _ = wide.Neg(a)
		}
		l = append(l, a)
	}
	return l
}

// check compares a result with the integer that it should be, or ErrBig and zero if that is no wide integer.
func check(t *testing.T, got api.Wide, e api.Errno, want *big.Int, call string, args ...any) {
	t.Helper()
	a, f := wideOf(want)
	if got != a || e != f {
		t.Errorf("%s%v: %v, error %d; want %v, error %d", call, args, bigOf(got), e, want, f)
	}
}

// checkError expects an error and, with it, zero.
func checkError(t *testing.T, got api.Wide, e, want api.Errno, call string, args ...any) {
	t.Helper()
	if e != want || got != (api.Wide{}) {
		t.Errorf("%s%v: %v, error %d; want 0, error %d", call, args, bigOf(got), e, want)
	}
}
