package list_test

import (
	"math"
	"testing"

	"wardmote/api"
	"wardmote/list"
)

// P11.1 to P11.3: arguments that are not valid, in their order, and the zero answers beside the errors.

// refuse expects the error of all functions that have rules.
func refuse(t *testing.T, l []api.Party, r api.ListRules, want api.Errno) {
	t.Helper()
	if got, e := list.Pass(l, r); got != nil || e != want {
		t.Errorf("Pass(%.40v, %v): %v, error %d; want the error %d", l, r, got, e, want)
	}
	if got, e := list.Level(l, r); !isEmpty(got) || e != want {
		t.Errorf("Level(%.40v, %v): %v, error %d; want the error %d", l, r, got, e, want)
	}
	if got, e := list.Give(l, r); got != nil || e != want {
		t.Errorf("Give(%.40v, %v): %v, error %d; want the error %d", l, r, got, e, want)
	}
	if got, e := list.Wasted(l, r); got != 0 || e != want {
		t.Errorf("Wasted(%.40v, %v): %d, error %d; want the error %d", l, r, got, e, want)
	}
}

// badRules are rules that are not valid.
func badRules() []api.ListRules {
	l := []api.ListRules{{}, rules(-1, -1, -1, -1, -1)}
	for _, method := range noMethods {
		l = append(l, api.ListRules{Method: method, Seats: 1}, api.ListRules{Method: method, Seats: 1000, Bonus: 1000})
	}
	for _, method := range []int{api.MeHare, api.MeImperiali, api.MeAdams, api.MeJefferson} {
		for _, seats := range []int{math.MinInt, -1, 0, 1001, math.MaxInt} {
			l = append(l, api.ListRules{Method: method, Seats: seats}, api.ListRules{Method: method, Seats: seats, Bonus: seats})
		}
		for _, part := range []int{math.MinInt, -1, 10001, math.MaxInt} {
			l = append(l, api.ListRules{Method: method, Seats: 5, Threshold: part}, api.ListRules{Method: method, Seats: 5, Joint: part})
			l = append(l, api.ListRules{Method: method, Seats: 5, Threshold: part, Joint: part})
		}
		for _, bonus := range []int{math.MinInt, -1, 6, 1000, math.MaxInt} {
			l = append(l, api.ListRules{Method: method, Seats: 5, Bonus: bonus})
		}
		l = append(l, api.ListRules{Method: method, Seats: 1000, Bonus: 1001}, api.ListRules{Method: method, Seats: 1, Bonus: 2})
	}
	return l
}

func TestInvalidParties(t *testing.T) {
	rules := append(badRules(), api.ListRules{Method: api.MeHare, Seats: 1}, api.ListRules{Method: api.MeHill, Seats: 1000, Threshold: 10000, Joint: 10000})
	for _, l := range invalid() {
		if e := list.Check(l); e != api.ErrParty {
			t.Errorf("Check(%.40v): error %d", l, e)
		}
		if got, e := list.Lists(l); got != nil || e != api.ErrParty {
			t.Errorf("Lists(%.40v): %v, error %d", l, got, e)
		}
		for _, r := range rules {
			refuse(t, l, r, api.ErrParty)
		}
	}
}

func TestInvalidRules(t *testing.T) {
	// Parties of which no list may pass, that may tie, that may be no census, and whose lists may be single ones or alliances.
	for _, l := range [][]api.Party{alone(1), alone(5, 5), allied(12, 5, 5), allied(1, repeated(api.MaxPeople, 12)...), parties([][2]int{{5, 0}, {5, 1}, {0, 1}})} {
		for _, r := range badRules() {
			refuse(t, l, r, api.ErrArg)
		}
		for _, r := range []api.ListRules{rules(0, 1, 10000, 10000, 1), rules(api.MeHare, 1, 10000, 10001, 1), rules(api.MeHare, 1, 10000, 10000, 2)} {
			refuse(t, l, r, api.ErrArg)
		}
	}
}

// The least and the greatest rules that are valid.
func TestLimitsOfRules(t *testing.T) {
	for _, method := range methods {
		for _, seats := range []int{1, 2, 999, 1000} {
			for _, bonus := range []int{0, 1, seats - 1, seats} {
				for _, part := range []int{0, 1, 9999, 10000} {
					for _, joint := range []int{0, 1, 9999, 10000} {
						for _, l := range [][]api.Party{alone(7), allied(3, 6, 4), parties([][2]int{{7, 0}, {2, 1}, {1, 1}}), alone(repeated(api.MaxPeople, 12)...)} {
							check(t, l, api.ListRules{Method: method, Seats: seats, Threshold: part, Joint: joint, Bonus: bonus})
						}
					}
				}
			}
		}
	}
}
