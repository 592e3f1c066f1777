package spread

import (
	"iter"
	"maps"
	"slices"

	"wardmote/api"
	"wardmote/vast"
)

// table has masses, one for each value.
type table map[vast.Key]mass

// add adds m to the mass that its value has.
func (t table) add(m mass) {
	key := m.at.Key()
	if before, isThere := t[key]; isThere {
		m.p = before.p.Plus(m.p)
	}
	t[key] = m
}

// inOrder returns the masses, with rising values.
func (t table) inOrder() []mass {
	return slices.SortedFunc(maps.Values(t), func(m, n mass) int { return m.at.Compare(n.at) })
}

// spread returns the spread with these masses, or ErrBig.
func (t table) spread() (api.Spread, api.Errno) {
	var s api.Spread
	for _, m := range t.inOrder() {
		at, e := m.at.Share()
		p, f := m.p.Share()
		if e != api.OK || f != api.OK {
			return nil, api.ErrBig
		}
		s = append(s, api.Mass{At: at, P: p})
	}
	return s, api.OK
}

// adder adds up masses of as many values as a spread may have.
type adder struct{ table }

// takes adds m, and says whether the values are not too many.
func (a adder) takes(m mass) bool {
	a.add(m)
	return len(a.table) <= api.MaxMasses
}

// gather returns the spread of what is made of the pairs, whose probabilities add up to 1; ErrLong or ErrBig.
func gather[A, B any](all iter.Seq2[A, B], massOf func(A, B) mass) (api.Spread, api.Errno) {
	sums := adder{table{}}
	for a, b := range all {
		if !sums.takes(massOf(a, b)) {
			return nil, api.ErrLong
		}
	}
	return sums.spread()
}
