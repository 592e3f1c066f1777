package radical

import (
	"cmp"
	"maps"
	"slices"

	"wardmote/api"
	"wardmote/wide"
)

// gathered has, for squarefree numbers, how many times their roots are counted. The numbers are wide, since what is too
// large for a term may be taken away again.
type gathered map[int]api.Wide

// add counts the root of under so many times, multiplied by a factor.
func (g gathered) add(under, times, factor int) {
	product, _ := wide.Mul(wide.Of(times), wide.Of(factor))
	g[under], _ = wide.Add(g[under], product)
}

// addAll counts the terms of a valid radical, multiplied by a factor.
func (g gathered) addAll(r api.Radical, factor int) {
	for _, t := range r {
		g.add(t.Under, t.Times, factor)
	}
}

// radical returns the radical of all that is counted; ErrBig or ErrLong.
func (g gathered) radical() (api.Radical, api.Errno) {
	var r api.Radical
	for _, under := range sortedKeys(g) {
		times, e := wide.Int(g[under])
		if e != api.OK || !within(times, api.RadicalTimes) {
			return nil, api.ErrBig
		}
		if times != 0 {
			r = append(r, api.Term{Times: times, Under: under})
		}
	}
	if len(r) > api.RadicalTerms {
		return nil, api.ErrLong
	}
	return r, api.OK
}

func sortedKeys[K cmp.Ordered, V any](m map[K]V) []K {
	return slices.Sorted(maps.Keys(m))
}
