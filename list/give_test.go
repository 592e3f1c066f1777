package list_test

import (
	"slices"
	"testing"

	"wardmote/api"
	"wardmote/list"
)

// P11.3

// given is a call of Give and of Wasted, with what is expected of them. The numbers are worked out by hand.
type given struct {
	name   string
	l      []api.Party
	r      api.ListRules
	want   []int
	wasted int
	e      api.Errno
	end    string
}

// checkGiven expects what was worked out by hand, also of the second program.
func checkGiven(t *testing.T, l []given) {
	t.Helper()
	for _, x := range l {
		if got, e := list.Give(x.l, x.r); !slices.Equal(got, x.want) || e != x.e || e != api.OK && got != nil {
			t.Errorf("%s: Give(%v, %v): %v, error %d; want %v, error %d", x.name, x.l, x.r, got, e, x.want, x.e)
		}
		if got, e := list.Wasted(x.l, x.r); got != x.wasted || e != x.e {
			t.Errorf("%s: Wasted(%v, %v): %d, error %d; want %d, error %d", x.name, x.l, x.r, got, e, x.wasted, x.e)
		}
		if y := check(t, x.l, x.r); y.end != x.end {
			t.Errorf("%s: %s; want that %s", x.name, y.end, x.end)
		}
	}
}

func TestGive(t *testing.T) {
	apart := parties([][2]int{{28, 2}, {12, 0}, {20, 2}, {31, 0}, {9, 2}})
	checkGiven(t, []given{
		{"one party", alone(7), api.ListRules{Method: api.MeHare, Seats: 5}, []int{5}, 0, api.OK, decided},
		{"an alliance of one party", allied(3, 7), api.ListRules{Method: api.MeHare, Seats: 5}, []int{5}, 0, api.OK, decided},
		{"parties without alliances: 9, 5, 9/2", alone(9, 5, 3), api.ListRules{Method: api.MeJefferson, Seats: 3}, []int{2, 1, 0}, 3, api.OK, decided},
		{"an alliance of all: the same", allied(12, 9, 5, 3), api.ListRules{Method: api.MeJefferson, Seats: 3}, []int{2, 1, 0}, 3, api.OK, decided},
		{"an alliance of all, with a bonus: the same", allied(12, 9, 5, 3), api.ListRules{Method: api.MeJefferson, Seats: 3, Bonus: 2}, []int{2, 1, 0}, 3, api.OK, decided},
		{"an alliance of all, with a bonus of all seats: the same", allied(12, 9, 5, 3), api.ListRules{Method: api.MeJefferson, Seats: 3, Bonus: 3}, []int{2, 1, 0}, 3, api.OK, onlyBonus},
		// 57, 31, 57/2, 19, 31/2, 57/4, 12; inside 28, 20, 14, 10.
		{"an alliance whose parties stand apart", apart, api.ListRules{Method: api.MeJefferson, Seats: 7}, []int{2, 1, 2, 2, 0}, 9, api.OK, decided},
		// Two seats more for the alliance; inside 28, 20, 14, 10, 28/3, 9.
		{"an alliance with a bonus", apart, api.ListRules{Method: api.MeJefferson, Seats: 9, Bonus: 2}, []int{3, 1, 2, 2, 1}, 0, api.OK, decided},
		{"a party without votes in an alliance with seats", parties([][2]int{{0, 1}, {10, 1}, {5, 0}}), api.ListRules{Method: api.MeAdams, Seats: 3}, []int{0, 2, 1}, 0, api.OK, decided},
		{"no seats for a list that does not pass", alone(60, 25, 15), api.ListRules{Method: api.MeAdams, Seats: 3, Threshold: 1501}, []int{2, 1, 0}, 15, api.OK, decided},
		{"no seats for an alliance that does not pass", parties([][2]int{{30, 1}, {60, 0}, {10, 1}}), api.ListRules{Method: api.MeAdams, Seats: 3, Joint: 5000}, []int{0, 3, 0}, 40, api.OK, decided},
		{"a bonus of all seats: the others have none", alone(2, 5, 3), api.ListRules{Method: api.MeHare, Seats: 9, Bonus: 9}, []int{0, 9, 0}, 5, api.OK, onlyBonus},
		{"all have seats", alone(2, 5, 3), api.ListRules{Method: api.MeHare, Seats: 10}, []int{2, 5, 3}, 0, api.OK, decided},
		{"the most votes without seats", alone(append(repeated(api.MaxPeople-1, 11), api.MaxPeople)...), api.ListRules{Method: api.MeJefferson, Seats: 1}, append(repeated(0, 11), 1), 11 * (api.MaxPeople - 1), api.OK, decided},
		{"an alliance of 10^9 votes", append(allied(1, api.MaxPeople-1, 1), api.Party{Votes: api.MaxPeople / 2}), api.ListRules{Method: api.MeHare, Seats: 3}, []int{2, 0, 1}, 1, api.OK, decided},
		// The quota 5: 2, 1, 4/5, 3/5, 3/5. An award of two seats to one party fails by MeImperiali, whose quotient is 4.
		{"an alliance of one party has the seats of its list", parties([][2]int{{10, 1}, {5, 0}, {4, 0}, {3, 0}, {3, 0}}), api.ListRules{Method: api.MeImperiali, Seats: 3}, []int{2, 1, 0, 0, 0}, 10, api.OK, decided},
		{"a party without votes, as an alliance", parties([][2]int{{0, 2}, {5, 0}, {0, 0}}), api.ListRules{Method: api.MeDean, Seats: 3}, []int{0, 3, 0}, 0, api.OK, decided},
		{"an alliance without seats", parties([][2]int{{1, 1}, {100, 0}, {1, 1}}), api.ListRules{Method: api.MeWebster, Seats: 3}, []int{0, 3, 0}, 2, api.OK, decided},
		{"two alliances, by turns", parties([][2]int{{6, 2}, {8, 1}, {2, 2}, {4, 1}}), api.ListRules{Method: api.MeHare, Seats: 10}, []int{3, 4, 1, 2}, 0, api.OK, decided},
	})
}

// Awards of lists that have an error, or open seats.
func TestGiveWithoutALevel(t *testing.T) {
	checkGiven(t, []given{
		{"no list passes", alone(40, 60), api.ListRules{Method: api.MeHare, Seats: 3, Threshold: 6001}, nil, 0, api.ErrNone, noList},
		{"two lists with the most votes, and a bonus", alone(5, 3, 5), api.ListRules{Method: api.MeJefferson, Seats: 3, Bonus: 1}, nil, 0, api.ErrState, rivals},
		{"the award fails", alone(50, 50), api.ListRules{Method: api.MeImperiali, Seats: 2}, nil, 0, api.ErrFail, failed},
		{"too many votes", allied(1, api.MaxPeople, 1), api.ListRules{Method: api.MeHare, Seats: 2}, nil, 0, api.ErrQuota, noCensus},
		{"seats are open", alone(5, 5), api.ListRules{Method: api.MeWebster, Seats: 3}, nil, 0, api.ErrState, open},
		{"seats are open, beside a bonus", alone(5, 3, 3), api.ListRules{Method: api.MeJefferson, Seats: 4, Bonus: 2}, nil, 0, api.ErrState, open},
		// The quota 34/5: 1 6/34, 1 31/34, 1 31/34. In the alliance the quota is 4: one seat for two quotients of 1.
		{"seats are open, and an alliance would fail", parties([][2]int{{4, 1}, {4, 1}, {13, 0}, {13, 0}}), api.ListRules{Method: api.MeHagenbach, Seats: 4}, nil, 0, api.ErrState, open},
	})
}

// Alliances whose own award fails, or has open seats. By MeHagenbach one seat fails for 4 and 4, whose quota is 4, and is open
// for 3, 3 and 3, whose quota is 9/2.
func TestAlliancesWithoutAnAward(t *testing.T) {
	r := api.ListRules{Method: api.MeHagenbach, Seats: 4}
	fails, ties, decides := parties([][2]int{{4, 1}, {4, 1}}), parties([][2]int{{3, 2}, {3, 2}, {3, 2}}), parties([][2]int{{7, 3}, {1, 3}})
	join := func(l ...[]api.Party) []api.Party { return slices.Concat(l...) }
	checkGiven(t, []given{
		// The quota 37/5: 1 3/37, 1 8/37, 2 26/37.
		{"one fails, and then one ties", join(fails, ties, alone(20)), r, nil, 0, api.ErrFail, failedIn},
		{"one ties, and then one fails", join(ties, fails, alone(20)), r, nil, 0, api.ErrState, openIn},
		{"one fails in the end, and then one ties in the end", join(alone(20), fails, ties), r, nil, 0, api.ErrFail, failedIn},
		{"one ties in the end, and then one fails in the end", join(alone(20), ties, fails), r, nil, 0, api.ErrState, openIn},
		{"the one that fails has the first party, and the last one", join(fails[:1], ties, alone(20), fails[1:]), r, nil, 0, api.ErrFail, failedIn},
		{"the one that ties has the first party, and the last one", join(ties[:1], fails, alone(20), ties[1:]), r, nil, 0, api.ErrState, openIn},
		// The quota 36/5: 1 4/36, 1 4/36, 2 28/36. Inside, the quota is 4: 1 3/4, 1/4.
		{"one is decided, and then one fails", join(decides, fails, alone(20)), r, nil, 0, api.ErrFail, failedIn},
		{"one fails, and then one is decided", join(fails, decides, alone(20)), r, nil, 0, api.ErrFail, failedIn},
		{"two are decided", join(decides, parties([][2]int{{1, 4}, {7, 4}}), alone(20)), r, []int{1, 0, 0, 1, 2}, 2, api.OK, decided},
		// Without the seats of the alliances: the quota 20 of 4 + 4 + 3 + 3 + 3 + 83.
		{"both have no seats", join(fails, ties, alone(83)), r, []int{0, 0, 0, 0, 0, 4}, 17, api.OK, decided},
		{"both do not pass", join(fails, ties, alone(20)), api.ListRules{Method: api.MeHare, Seats: 4, Joint: 3000}, []int{0, 0, 0, 0, 0, 4}, 17, api.OK, decided},
		{"two equal parties, and a seat", allied(1, 5, 5), api.ListRules{Method: api.MeWebster, Seats: 1}, nil, 0, api.ErrState, openIn},
		{"two equal parties, and a seat, which is the bonus", allied(1, 5, 5), api.ListRules{Method: api.MeWebster, Seats: 1, Bonus: 1}, nil, 0, api.ErrState, openIn},
		{"two equal parties, and two seats", allied(1, 5, 5), api.ListRules{Method: api.MeWebster, Seats: 2}, []int{1, 1}, 0, api.OK, decided},
		{"a party would have a seat for sure", allied(1, 5, 2, 2), api.ListRules{Method: api.MeJefferson, Seats: 3}, nil, 0, api.ErrState, openIn},
	})
}
