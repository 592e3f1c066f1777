package list_test

import (
	"math/rand"
	"slices"
	"testing"

	"wardmote/api"
	"wardmote/list"
)

// P11.4

func TestSeatsAddUp(t *testing.T) {
	r := random{rand.New(rand.NewSource(2))}
	some, without := 0, 0
	for range 20000 {
		l := r.parties(1+r.Intn(api.ListMax), []int{40, 1000, api.MaxPeople / 12}[r.Intn(3)], 4)
		x := r.rules(methods[r.Intn(9)], []int{6, 40, api.MaxSeats}[r.Intn(3)])
		if award, e := list.Level(l, x); e == api.OK && total(award.Seats)+award.Open != x.Seats {
			t.Errorf("Level(%v, %v): %v", l, x, award)
		}
		seats, e := list.Give(l, x)
		if e != api.OK {
			continue
		}
		some++
		if total(seats) != x.Seats {
			t.Errorf("Give(%v, %v): %v are %d seats", l, x, seats, total(seats))
		}
		isIn, _ := list.Pass(l, x)
		for i := range l {
			if !isIn[i] && l[i].Votes > 0 {
				without++
			}
			if !isIn[i] && seats[i] > 0 {
				t.Errorf("Give(%v, %v): %v, and those who pass are %v", l, x, seats, isIn)
			}
		}
	}
	if some < 8000 || without < 8000 {
		t.Errorf("the test is wrong: %d calls without an error, %d parties with votes whose lists do not pass", some, without)
	}
}

func TestPlainRulesAreTheMethod(t *testing.T) {
	r := random{rand.New(rand.NewSource(3))}
	ends := map[api.Errno]int{}
	for range 10000 {
		l := r.parties(1+r.Intn(api.ListMax), []int{5, 40, 1000, api.MaxPeople}[r.Intn(4)], 0)
		x := api.ListRules{Method: methods[r.Intn(9)], Seats: 1 + r.Intn([]int{6, 40, api.MaxSeats}[r.Intn(3)])}
		var votes []int
		for _, p := range l {
			votes = append(votes, p.Votes)
		}
		want, f := awarded(votes, x.Seats, x.Method)
		if got, e := list.Level(l, x); !sameAward(got, want) || e != f {
			t.Errorf("Level(%v, %v): %v, error %d; want %v, error %d", l, x, got, e, want, f)
		}
		if want.Open > 0 {
			want.Seats, f = nil, api.ErrState
		}
		if got, e := list.Give(l, x); !slices.Equal(got, want.Seats) || e != f {
			t.Errorf("Give(%v, %v): %v, error %d; want %v, error %d", l, x, got, e, want.Seats, f)
		}
		ends[f]++
	}
	if ends[api.OK] < 3000 || ends[api.ErrState] < 500 || ends[api.ErrFail] < 200 || len(ends) != 3 {
		t.Errorf("the test is wrong: %v", ends)
	}
}

// pairing returns how many seats two parties have alone, and in an alliance, which no other party is in; or no such numbers
// if something ties.
func pairing(t *testing.T, l []api.Party, one, other int, r api.ListRules) (apart, together int, isOne bool) {
	t.Helper()
	before, e := list.Give(l, r)
	if e != api.OK {
		return 0, 0, false
	}
	joined := slices.Clone(l)
	joined[one].Alliance, joined[other].Alliance = api.ListMax, api.ListMax
	behind, e := list.Give(joined, r)
	if e != api.OK {
		return 0, 0, false
	}
	return before[one] + before[other], behind[one] + behind[other], true
}

func TestAlliancesOfTwo(t *testing.T) {
	r := random{rand.New(rand.NewSource(4))}
	gains, losses, pairs := 0, 0, 0
	for range 10000 {
		l := r.parties(2+r.Intn(api.ListMax-1), []int{40, 1000, api.MaxPeople / 2}[r.Intn(3)], api.ListMax-1)
		l[0].Alliance, l[1].Alliance = 0, 0
		r.Shuffle(len(l), func(i, k int) { l[i], l[k] = l[k], l[i] })
		one := slices.IndexFunc(l, func(p api.Party) bool { return p.Alliance == 0 })
		other := one + 1 + slices.IndexFunc(l[one+1:], func(p api.Party) bool { return p.Alliance == 0 })
		withVotes := 0
		for _, p := range l {
			if p.Votes > 0 {
				withVotes++
			}
		}
		seats := withVotes + r.Intn([]int{6, 40, 900}[r.Intn(3)])
		apart, together, isOne := pairing(t, l, one, other, api.ListRules{Method: api.MeAdams, Seats: seats})
		if isOne {
			pairs++
		}
		if together > apart {
			t.Errorf("%d seats for %v by MeAdams: %d and %d have %d seats alone, and %d in an alliance", seats, l, one, other, apart, together)
		}
		if together < apart {
			losses++
		}
		seats = 1 + r.Intn([]int{6, 40, 900}[r.Intn(3)])
		apart, together, isOne = pairing(t, l, one, other, api.ListRules{Method: api.MeJefferson, Seats: seats})
		if isOne {
			pairs++
		}
		if together < apart {
			t.Errorf("%d seats for %v by MeJefferson: %d and %d have %d seats alone, and %d in an alliance", seats, l, one, other, apart, together)
		}
		if together > apart {
			gains++
		}
	}
	if gains < 500 || losses < 500 || pairs < 8000 {
		t.Errorf("the test is wrong: %d pairs, %d of which win, and %d lose", pairs, gains, losses)
	}
}
