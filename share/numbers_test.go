package share_test

import (
	"encoding/binary"
	"math/big"
	"math/rand"
	"testing"

	"wardmote/api"
	"wardmote/wide"
)

// The tests compare package share with math/big.

var (
	least     = api.Wide{7: 1 << 63}
	greatest  = wideOf(new(big.Int).Sub(power(2, 511), big.NewInt(1)))
	allWords  = power(2, 512)
	lowestBig = bigOf(least)
)

func power(base, n int64) *big.Int {
	return new(big.Int).Exp(big.NewInt(base), big.NewInt(n), nil)
}

// bigOf returns the integer that stands for the words of a.
func bigOf(a api.Wide) *big.Int {
	var octets [64]byte
	for i, word := range a {
		binary.BigEndian.PutUint64(octets[56-8*i:], word)
	}
	n := new(big.Int).SetBytes(octets[:])
	if wide.Sign(a) < 0 {
		n.Sub(n, allWords)
	}
	return n
}

// isWide says whether n is a wide integer.
func isWide(n *big.Int) bool {
	return n.BitLen() < 512 || n.Cmp(lowestBig) == 0
}

// wideOf returns the wide integer n.
func wideOf(n *big.Int) api.Wide {
	var octets [64]byte
	new(big.Int).Mod(n, allWords).FillBytes(octets[:])
	var a api.Wide
	for i := range a {
		a[i] = binary.BigEndian.Uint64(octets[56-8*i:])
	}
	return a
}

// ratOf returns the number that a valid share is.
func ratOf(a api.Share) *big.Rat {
	return new(big.Rat).SetFrac(bigOf(a.N), bigOf(a.D))
}

// shareOf returns the share that is x, or ErrBig and no share.
func shareOf(x *big.Rat) (api.Share, api.Errno) {
	if !isWide(x.Num()) || !isWide(x.Denom()) {
		return api.Share{}, api.ErrBig
	}
	return api.Share{N: wideOf(x.Num()), D: wideOf(x.Denom())}, api.OK
}

// number returns the number with this text, in which - and a slash may stand as in that of a share.
func number(text string) *big.Rat {
	x, ok := new(big.Rat).SetString(text)
	if !ok {
		panic(text)
	}
	return x
}

// of returns the share with this text.
func of(text string) api.Share {
	a, e := shareOf(number(text))
	if e != api.OK {
		panic(text)
	}
	return a
}

// whole returns the share n / 1.
func whole(n api.Wide) api.Share {
	return api.Share{N: n, D: wide.Of(1)}
}

// over returns the share 1 / d of a positive d.
func over(d api.Wide) api.Share {
	return api.Share{N: wide.Of(1), D: d}
}

// edges are shares whose parts are small, or beside 2^255, 2^510 and 2^511.
func edges() []api.Share {
	parts := []*big.Int{big.NewInt(0), big.NewInt(1), big.NewInt(2), big.NewInt(3), big.NewInt(10)}
	for _, n := range []int64{64, 255, 256, 510, 511} {
		for d := int64(-1); d <= 1; d++ {
			parts = append(parts, new(big.Int).Add(power(2, n), big.NewInt(d)))
		}
	}
	var l []api.Share
	seen := map[api.Share]bool{}
	for _, n := range parts {
		for _, d := range parts[1:] {
			for _, sign := range []int64{-1, 1} {
				x := new(big.Rat).SetFrac(new(big.Int).Mul(n, big.NewInt(sign)), d)
				if a, e := shareOf(x); e == api.OK && !seen[a] {
					seen[a] = true
					l = append(l, a)
				}
			}
		}
	}
	return l
}

// samples are shares whose parts have all lengths; many of their denominators have common divisors.
func samples(count int) []api.Share {
	r := rand.New(rand.NewSource(2))
	common := []*big.Int{big.NewInt(1), big.NewInt(60), power(6, 90), power(30, 50), power(2, 200)}
	var l []api.Share
	for len(l) < count {
		n := new(big.Int).Rand(r, power(2, 1+r.Int63n(511)))
		d := new(big.Int).Rand(r, power(2, 1+r.Int63n(300)))
		d.Mul(d.Add(d, big.NewInt(1)), common[r.Intn(len(common))])
		if r.Intn(2) == 0 {
			n.Neg(n)
		}
		if a, e := shareOf(new(big.Rat).SetFrac(n, d)); e == api.OK {
			l = append(l, a)
		}
	}
	return l
}

// invalid are shares that are not valid.
func invalid() []api.Share {
	var l []api.Share
	for _, x := range [][2]int{{0, 0}, {1, 0}, {-1, 0}, {1, -1}, {0, -1}, {-3, -2}, {1, -2}, {2, 4}, {-2, 4}, {0, 2}, {3, 3}, {-9, 6}} {
		l = append(l, api.Share{N: wide.Of(x[0]), D: wide.Of(x[1])})
	}
	return append(l,
		api.Share{N: least, D: wide.Of(2)},
		api.Share{N: least, D: api.Wide{7: 1 << 62}},
		api.Share{N: least, D: least},
		api.Share{N: wide.Of(1), D: least},
		api.Share{N: api.Wide{}, D: least},
		api.Share{N: least, D: api.Wide{}},
		api.Share{N: api.Wide{}, D: greatest},
		api.Share{N: greatest, D: greatest},
	)
}

// check compares a result with the number that it should be, or ErrBig and the zero value if that is no share.
func check(t *testing.T, got api.Share, e api.Errno, want *big.Rat, call string, args ...any) {
	t.Helper()
	if a, f := shareOf(want); got != a || e != f {
		t.Errorf("%s%v: %v / %v, error %d; want %v, error %d", call, args, bigOf(got.N), bigOf(got.D), e, want, f)
	}
}

// checkError expects an error and, with it, the zero value.
func checkError[T comparable](t *testing.T, got T, e, want api.Errno, call string, args ...any) {
	t.Helper()
	var zero T
	if got != zero || e != want {
		t.Errorf("%s%v: %v, error %d; want nothing, error %d", call, args, got, e, want)
	}
}
