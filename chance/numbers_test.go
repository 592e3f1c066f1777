package chance_test

import (
	"encoding/binary"
	"math/big"
	"math/bits"
	"math/rand"
	"testing"

	"wardmote/api"
	"wardmote/wide"
)

// The tests compare package chance with a second generator, which computes with math/big.

var (
	least    = api.Wide{7: 1 << 63}
	greatest = wideOf(plus(power(511), -1))
)

// power returns 2^n.
func power(n uint) *big.Int {
	return new(big.Int).Lsh(big.NewInt(1), n)
}

func plus(n *big.Int, d int64) *big.Int {
	return new(big.Int).Add(n, big.NewInt(d))
}

// bigOf returns the integer that stands for the words of a.
func bigOf(a api.Wide) *big.Int {
	var octets [64]byte
	for i, word := range a {
		binary.BigEndian.PutUint64(octets[56-8*i:], word)
	}
	n := new(big.Int).SetBytes(octets[:])
	if wide.Sign(a) < 0 {
		n.Sub(n, power(512))
	}
	return n
}

// wideOf returns the wide integer n.
func wideOf(n *big.Int) api.Wide {
	var octets [64]byte
	new(big.Int).Mod(n, power(512)).FillBytes(octets[:])
	var a api.Wide
	for i := range a {
		a[i] = binary.BigEndian.Uint64(octets[56-8*i:])
	}
	return a
}

func wides(l ...int) []api.Wide {
	var result []api.Wide
	for _, n := range l {
		result = append(result, wide.Of(n))
	}
	return result
}

// second is the second generator: its state, and how many numbers were taken.
type second struct {
	at    *big.Int
	taken int
}

func secondOf(c api.Chance) *second {
	return &second{at: new(big.Int).SetUint64(c.State)}
}

func (s *second) state() api.Chance {
	return api.Chance{State: s.at.Uint64()}
}

func hexadecimal(text string) *big.Int {
	n, ok := new(big.Int).SetString(text, 16)
	if !ok {
		panic(text)
	}
	return n
}

// next follows the chapter's words, with numbers that are not limited to 64 bits.
func (s *second) next() *big.Int {
	s.taken++
	modulus := power(64)
	s.at.Add(s.at, hexadecimal("9e3779b97f4a7c15")).Mod(s.at, modulus)
	z := new(big.Int).Set(s.at)
	for _, x := range []struct {
		shift  uint
		factor string
	}{{30, "bf58476d1ce4e5b9"}, {27, "94d049bb133111eb"}} {
		z.Xor(z, new(big.Int).Quo(z, power(x.shift)))
		z.Mul(z, hexadecimal(x.factor)).Mod(z, modulus)
	}
	return z.Xor(z, new(big.Int).Quo(z, power(31)))
}

// below draws a number below n by comparing with the greatest multiple.
func (s *second) below(n int) int {
	divisor := big.NewInt(int64(n))
	multiple := new(big.Int).Quo(power(64), divisor)
	multiple.Mul(multiple, divisor)
	for {
		if x := s.next(); x.Cmp(multiple) < 0 {
			return int(x.Mod(x, divisor).Int64())
		}
	}
}

// candidate returns a number of so many digits.
func (s *second) candidate(length int) *big.Int {
	x := new(big.Int)
	for shift := 0; shift < length; shift += 64 {
		x.Add(x, new(big.Int).Lsh(s.next(), uint(shift)))
	}
	return x.Mod(x, power(uint(length)))
}

// wide draws a wide number below n.
func (s *second) wide(n *big.Int) *big.Int {
	length := plus(n, -1).BitLen()
	if length == 0 {
		return new(big.Int)
	}
	for {
		if x := s.candidate(length); x.Cmp(n) < 0 {
			return x
		}
	}
}

func (s *second) shuffle(n int) []int {
	var l []int
	for i := range n {
		l = append(l, i)
	}
	for i := n - 1; i >= 1; i-- {
		k := s.below(i + 1)
		l[i], l[k] = l[k], l[i]
	}
	return l
}

// pick draws an index by taking the weights away one by one.
func (s *second) pick(weights []api.Wide) int {
	sum := new(big.Int)
	for _, w := range weights {
		sum.Add(sum, bigOf(w))
	}
	x := s.wide(sum)
	for i, w := range weights {
		if x.Sub(x, bigOf(w)).Sign() < 0 {
			return i
		}
	}
	panic("nothing was picked")
}

// before returns the state whose next number is x.
func before(x uint64) api.Chance {
	x = unshifted(x, 31) * inverse(0x94d049bb133111eb)
	x = unshifted(x, 27) * inverse(0xbf58476d1ce4e5b9)
	x = unshifted(x, 30)
	return api.Chance{State: x - 0x9e3779b97f4a7c15}
}

// unshifted returns the z for which z xor z / 2^n is x.
func unshifted(x uint64, n int) uint64 {
	z := x
	for range 64/n + 1 {
		z = x ^ z>>n
	}
	return z
}

// inverse returns the number whose product with the odd number x is 1.
func inverse(x uint64) uint64 {
	y := x
	for range 6 { // the lowest 3, 6, 12, .. digits are right
		y *= 2 - x*y
	}
	if _, low := bits.Mul64(x, y); low != 1 {
		panic("no inverse")
	}
	return y
}

// states are states to draw from: small ones, great ones, and others.
func states(count int) []api.Chance {
	l := []api.Chance{{}, {State: 1}, {State: 1<<64 - 1}, {State: 1 << 63}, before(0), before(1<<64 - 1)}
	r := rand.New(rand.NewSource(4))
	for len(l) < count {
		l = append(l, api.Chance{State: r.Uint64()})
	}
	return l
}

// checkError expects an error and, with it, the zero value and the zero state.
func checkError[T comparable](t *testing.T, got T, behind api.Chance, e, want api.Errno, call string, args ...any) {
	t.Helper()
	var zero T
	if got != zero || behind != (api.Chance{}) || e != want {
		t.Errorf("%s%v: %v, state %x, error %d; want nothing, error %d", call, args, got, behind.State, e, want)
	}
}
