package chance

import (
	"iter"
	"math"
	"math/bits"

	"wardmote/api"
	"wardmote/wide"
)

// attempts is how many numbers, or candidates, may follow each other without one that is taken.
const attempts = 200

// state moves on with each number.
type state struct{ api.Chance }

// next moves on, and returns the number there.
func (s *state) next() uint64 {
	s.State += 0x9e3779b97f4a7c15
	z := s.State
	z = (z ^ z>>30) * 0xbf58476d1ce4e5b9
	z = (z ^ z>>27) * 0x94d049bb133111eb
	return z ^ z>>31
}

// source draws numbers below limits.
type source struct{ state }

// from returns the source whose state is c.
func from(c api.Chance) *source {
	return &source{state{c}}
}

// below draws a number below n, which is positive.
func (s *source) below(n int) (int, api.Errno) {
	divisor := uint64(n)
	rest := -divisor % divisor // of 2^64, which is no number of 64 bits itself
	x, e := draw(s.next, func(x uint64) bool { return x <= math.MaxUint64-rest })
	return int(x % divisor), e
}

// wide draws a wide number below n, which is positive.
func (s *source) wide(n api.Wide) (api.Wide, api.Errno) {
	greatest, _ := wide.Sub(n, wide.Of(1)) // is not negative, so that there is no error
	length := digits(greatest)
	return draw(func() api.Wide { return s.words(length) }, func(x api.Wide) bool { return wide.Cmp(x, n) < 0 })
}

// words returns a number of so many binary digits, from as many words as these need.
func (s *source) words(length int) api.Wide {
	const size = 64
	var words [len(api.Wide{})]uint64
	for i := range (length + size - 1) / size {
		words[i] = s.next()
	}
	if last := length % size; last > 0 {
		words[length/size] &= 1<<last - 1
	}
	return words
}

// digits returns the number of binary digits of n, which is not negative.
func digits(n api.Wide) int {
	length := 0
	for i, word := range n {
		if word > 0 {
			length = 64*i + bits.Len64(word)
		}
	}
	return length
}

// draw returns the first candidate that is taken, or ErrFail.
func draw[T any](candidate func() T, isTaken func(T) bool) (taken T, e api.Errno) {
	e = api.ErrFail
drawing:
	for x := range candidates(candidate) {
		if isTaken(x) {
			taken, e = x, api.OK
			break drawing
		}
	}
	return taken, e
}

// candidates yields as many candidates as may be drawn for one number.
func candidates[T any](candidate func() T) iter.Seq[T] {
	return func(yield func(T) bool) {
		for range attempts {
			if !yield(candidate()) {
				return
			}
		}
	}
}

// sumsOf returns the sums of the weights up to each one, and the sum of them all, or ErrBig.
func sumsOf(weights []api.Wide) (sums []api.Wide, total api.Wide, e api.Errno) {
	add := adder(wide.Add)
	for _, w := range weights {
		if total, e = add(w); e != api.OK {
			return nil, api.Wide{}, e
		}
		sums = append(sums, total)
	}
	return sums, total, api.OK
}

// adder returns a function that returns the sum of all that it was called with; the zero value of T is 0.
func adder[T any](plus func(a, b T) (T, api.Errno)) func(T) (T, api.Errno) {
	var sum T
	return func(x T) (T, api.Errno) {
		var e api.Errno
		sum, e = plus(sum, x)
		return sum, e
	}
}
