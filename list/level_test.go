package list_test

import (
	"testing"

	"wardmote/api"
	"wardmote/list"
)

// P11.2

func sure(seats ...int) api.Award { return api.Award{Seats: seats} }

func tie(tied []int, open int, seats ...int) api.Award {
	return api.Award{Seats: seats, Tied: tied, Open: open}
}

// levelled is a call of Level, with what is expected of it. The numbers are worked out by hand.
type levelled struct {
	name string
	l    []api.Party
	r    api.ListRules
	want api.Award
	e    api.Errno
	end  string
}

// checkLevels expects what was worked out by hand, also of the second program.
func checkLevels(t *testing.T, l []levelled) {
	t.Helper()
	for _, x := range l {
		if got, e := list.Level(x.l, x.r); !sameAward(got, x.want) || e != x.e || e != api.OK && !isEmpty(got) {
			t.Errorf("%s: Level(%v, %v): %v, error %d; want %v, error %d", x.name, x.l, x.r, got, e, x.want, x.e)
		}
		if y := check(t, x.l, x.r); y.end != x.end {
			t.Errorf("%s: %s; want that %s", x.name, y.end, x.end)
		}
	}
}

// Four seats by the method, and three for the list with the most votes.
func TestLevelByAllMethods(t *testing.T) {
	l := alone(60, 28, 12)
	for _, x := range []struct {
		method     int
		with, none api.Award
	}{
		{api.MeHare, sure(5, 1, 1), sure(2, 1, 1)},                                  // the quota 25: 2 2/5, 1 3/25, 12/25
		{api.MeDroop, sure(6, 1, 0), sure(3, 1, 0)},                                 // 21: 2 18/21, 1 7/21, 12/21
		{api.MeHagenbach, sure(6, 1, 0), sure(3, 1, 0)},                             // 20: 3, 1 2/5, 3/5
		{api.MeImperiali, sure(6, 1, 0), sure(3, 1, 0)},                             // 50/3: 3 3/5, 1 17/25, 18/25
		{api.MeAdams, sure(5, 1, 1), sure(2, 1, 1)},                                 // first a seat each, then 60
		{api.MeDean, sure(5, 1, 1), sure(2, 1, 1)},                                  // then 45 of the first one, and 21 of the second one
		{api.MeHill, sure(5, 1, 1), sure(2, 1, 1)},                                  // then 60, divided by the root of 2
		{api.MeWebster, tie([]int{0, 2}, 1, 5, 1, 0), tie([]int{0, 2}, 1, 2, 1, 0)}, // 120, 56, 40, and two of 24
		{api.MeJefferson, sure(6, 1, 0), sure(3, 1, 0)},                             // 60, 30, 28, 20
	} {
		r := api.ListRules{Method: x.method, Seats: 7, Bonus: 3}
		if got, e := list.Level(l, r); !sameAward(got, x.with) || e != api.OK {
			t.Errorf("Level by %d, with a bonus: %v, error %d; want %v", x.method, got, e, x.with)
		}
		r.Seats, r.Bonus = 4, 0
		if got, e := list.Level(l, r); !sameAward(got, x.none) || e != api.OK {
			t.Errorf("Level by %d, without a bonus: %v, error %d; want %v", x.method, got, e, x.none)
		}
	}
}

func TestLevel(t *testing.T) {
	none := api.Award{}
	l := parties([][2]int{{12, 0}, {20, 4}, {28, 0}, {40, 4}})
	checkLevels(t, []levelled{
		{"one party", alone(7), api.ListRules{Method: api.MeHare, Seats: 5}, sure(5), api.OK, decided},
		{"all seats there can be", alone(1), api.ListRules{Method: api.MeAdams, Seats: 1000}, sure(1000), api.OK, decided},
		{"all seats there can be, with a bonus", alone(1), api.ListRules{Method: api.MeAdams, Seats: 1000, Bonus: 999}, sure(1000), api.OK, decided},
		{"an alliance of 60 votes", l, api.ListRules{Method: api.MeHare, Seats: 4}, sure(1, 2, 1), api.OK, decided},
		{"an alliance of 60 votes, by MeJefferson", l, api.ListRules{Method: api.MeJefferson, Seats: 4}, sure(0, 3, 1), api.OK, decided},
		{"an alliance of 60 votes, and a bonus", l, api.ListRules{Method: api.MeJefferson, Seats: 7, Bonus: 3}, sure(0, 6, 1), api.OK, decided},
		{"its votes are not counted: 28 and 12, and two seats", l, api.ListRules{Method: api.MeAdams, Seats: 3, Joint: 6001, Bonus: 1}, sure(1, 0, 2), api.OK, decided},
		{"the votes of small parties are not counted: 60, and four seats", l, api.ListRules{Method: api.MeHare, Seats: 4, Threshold: 2801}, sure(0, 4, 0), api.OK, decided},
		{"lists that do not pass have no seats by MeAdams", l, api.ListRules{Method: api.MeAdams, Seats: 4, Threshold: 1201}, sure(0, 3, 1), api.OK, decided},
		{"parties without votes have no seats by MeAdams", alone(0, 9, 0), api.ListRules{Method: api.MeAdams, Seats: 4}, sure(0, 4, 0), api.OK, decided},
		{"twelve lists, one seat each", alone(repeated(api.MaxPeople, 12)...), api.ListRules{Method: api.MeHare, Seats: 12}, sure(repeated(1, 12)...), api.OK, decided},
		{"ties for an open seat, beside the bonus", alone(5, 3, 3), api.ListRules{Method: api.MeJefferson, Seats: 4, Bonus: 2}, tie([]int{1, 2}, 1, 3, 0, 0), api.OK, open},
		{"ties for an open seat, also of the list with the bonus", alone(6, 3), api.ListRules{Method: api.MeJefferson, Seats: 6, Bonus: 4}, tie([]int{0, 1}, 1, 5, 0), api.OK, open},
		{"lists tie that are not the first ones", alone(0, 9, 2, 2), api.ListRules{Method: api.MeWebster, Seats: 3}, tie([]int{2, 3}, 1, 0, 2, 0, 0), api.OK, open},

		{"no list passes", alone(40, 60), api.ListRules{Method: api.MeHare, Seats: 3, Threshold: 6001}, none, api.ErrNone, noList},
		{"no alliance passes", parties([][2]int{{40, 1}, {35, 2}, {25, 1}}), api.ListRules{Method: api.MeHare, Seats: 3, Joint: 6501}, none, api.ErrNone, noList},
		{"no list passes, and all seats are the bonus", alone(50, 50), api.ListRules{Method: api.MeHare, Seats: 3, Threshold: 6000, Bonus: 3}, none, api.ErrNone, noList},
		{"only parties without votes would pass", parties([][2]int{{0, 0}, {9, 1}, {1, 2}}), api.ListRules{Method: api.MeHare, Seats: 3, Joint: 9001}, none, api.ErrNone, noList},

		{"the award fails: the quota 25, and two seats", alone(50, 50), api.ListRules{Method: api.MeImperiali, Seats: 2}, none, api.ErrFail, failed},
		{"the award fails: the quota 1, and five seats for one vote", alone(1), api.ListRules{Method: api.MeDroop, Seats: 5}, none, api.ErrFail, failed},
		{"the award fails: the quota 4, and one seat", alone(4, 4, 1), api.ListRules{Method: api.MeHagenbach, Seats: 1, Threshold: 2000}, none, api.ErrFail, failed},
		{"the award of what the bonus leaves fails: the quota 5/3, and one seat", alone(3, 2), api.ListRules{Method: api.MeImperiali, Seats: 6, Bonus: 5}, none, api.ErrFail, failed},
	})
}

func TestBonus(t *testing.T) {
	none := api.Award{}
	allies := parties([][2]int{{40, 1}, {40, 0}, {20, 0}})
	checkLevels(t, []levelled{
		{"a bonus of all seats but one", alone(2, 5, 3), api.ListRules{Method: api.MeJefferson, Seats: 9, Bonus: 8}, sure(0, 9, 0), api.OK, decided},
		{"a bonus of all seats", alone(2, 5, 3), api.ListRules{Method: api.MeJefferson, Seats: 9, Bonus: 9}, sure(0, 9, 0), api.OK, onlyBonus},
		{"a bonus of the only seat", alone(2, 5, 3), api.ListRules{Method: api.MeHare, Seats: 1, Bonus: 1}, sure(0, 1, 0), api.OK, onlyBonus},
		{"a bonus of 1000 seats", alone(2, 5, 5001), api.ListRules{Method: api.MeHill, Seats: 1000, Bonus: 1000}, sure(0, 0, 1000), api.OK, onlyBonus},
		{"a bonus of all seats, where another award would fail", alone(4, 3), api.ListRules{Method: api.MeImperiali, Seats: 2, Bonus: 2}, sure(2, 0), api.OK, onlyBonus},
		{"a bonus for the list with one vote more", alone(api.MaxPeople-1, api.MaxPeople), api.ListRules{Method: api.MeWebster, Seats: 5, Bonus: 3}, sure(1, 4), api.OK, decided},
		{"a bonus for an alliance that has the most votes together", parties([][2]int{{3, 2}, {5, 0}, {3, 2}}), api.ListRules{Method: api.MeAdams, Seats: 3, Bonus: 1}, sure(2, 1), api.OK, decided},
		{"two lists with the most votes, and a bonus", alone(5, 3, 5), api.ListRules{Method: api.MeJefferson, Seats: 3, Bonus: 1}, none, api.ErrState, rivals},
		{"three of them", alone(5, 5, 5), api.ListRules{Method: api.MeJefferson, Seats: 4, Bonus: 1}, none, api.ErrState, rivals},
		{"two of them in the end, and a bonus of all seats", alone(3, 5, 5), api.ListRules{Method: api.MeJefferson, Seats: 3, Bonus: 3}, none, api.ErrState, rivals},
		{"two of them, and no bonus", alone(5, 3, 5), api.ListRules{Method: api.MeJefferson, Seats: 3}, sure(1, 1, 1), api.OK, decided},
		{"two of them, and no bonus, and one seat", alone(5, 3, 5), api.ListRules{Method: api.MeJefferson, Seats: 1}, tie([]int{0, 2}, 1, 0, 0, 0), api.OK, open},
		{"two lists with fewer votes than another one", alone(3, 5, 3), api.ListRules{Method: api.MeJefferson, Seats: 4, Bonus: 1}, sure(1, 2, 1), api.OK, decided},
		{"an alliance and a party have the most votes", parties([][2]int{{2, 1}, {5, 0}, {3, 1}}), api.ListRules{Method: api.MeJefferson, Seats: 4, Bonus: 1}, none, api.ErrState, rivals},
		// 80, 80/3, 16, 80/7, 80/9 and 40, 40/3 are the seven greatest ranks.
		{"two lists with the most votes, of which the alliance does not pass", allies, api.ListRules{Method: api.MeWebster, Seats: 10, Joint: 5000, Bonus: 3}, sure(0, 8, 2), api.OK, decided},
		{"two lists with the most votes, of which the party does not pass", allies, api.ListRules{Method: api.MeWebster, Seats: 10, Threshold: 5000, Bonus: 3}, sure(10, 0, 0), api.OK, decided},
		{"they would both pass", allies, api.ListRules{Method: api.MeWebster, Seats: 10, Bonus: 3}, none, api.ErrState, rivals},
		{"the list with the most votes does not pass, and the next one has the bonus", parties([][2]int{{30, 1}, {20, 1}, {31, 0}, {19, 0}}), api.ListRules{Method: api.MeJefferson, Seats: 5, Joint: 6000, Bonus: 1}, sure(0, 4, 1), api.OK, decided},
		{"the list with the most votes does not pass, and the next ones have as many as each other", parties([][2]int{{40, 1}, {30, 0}, {30, 0}}), api.ListRules{Method: api.MeJefferson, Seats: 5, Joint: 6000, Bonus: 1}, none, api.ErrState, rivals},
		{"two lists with the most votes, neither of which passes", parties([][2]int{{40, 1}, {40, 1}, {80, 2}, {3, 0}}), api.ListRules{Method: api.MeJefferson, Seats: 5, Joint: 6000, Bonus: 1}, sure(0, 0, 5), api.OK, decided},
		{"two lists with the most votes, before an award that fails", alone(50, 50), api.ListRules{Method: api.MeImperiali, Seats: 3, Bonus: 1}, none, api.ErrState, rivals},
	})
}

// Lists may have more votes than there are people in a region of a census.
func TestGreatLists(t *testing.T) {
	none, most := api.Award{}, api.MaxPeople
	checkLevels(t, []levelled{
		{"an alliance of 10^9 votes", allied(1, most-1, 1), api.ListRules{Method: api.MeHare, Seats: 2}, sure(2), api.OK, decided},
		{"an alliance of 10^9 + 1 votes", allied(1, most, 1), api.ListRules{Method: api.MeHare, Seats: 2}, none, api.ErrQuota, noCensus},
		{"an alliance of 10^9 + 1 votes, by a divisor", allied(1, most, 1), api.ListRules{Method: api.MeJefferson, Seats: 2}, none, api.ErrQuota, noCensus},
		{"an alliance of 12 * 10^9 votes", allied(12, repeated(most, 12)...), api.ListRules{Method: api.MeHill, Seats: 1000, Bonus: 999}, none, api.ErrQuota, noCensus},
		{"the second list has too many votes", append(alone(5), allied(1, most, 1)...), api.ListRules{Method: api.MeAdams, Seats: 2, Bonus: 1}, none, api.ErrQuota, noCensus},
		{"an alliance that has too many votes, and does not pass", append(alone(5), allied(1, most, 1)...), api.ListRules{Method: api.MeAdams, Seats: 2, Joint: 10000}, sure(2, 0), api.OK, decided},
		{"too many votes, and all seats are the bonus", append(alone(5), allied(1, most, 1)...), api.ListRules{Method: api.MeAdams, Seats: 1, Bonus: 1}, sure(0, 1), api.OK, onlyBonus},
		{"two lists with the most votes, which are too many", parties([][2]int{{most, 1}, {1, 2}, {most, 2}, {1, 1}}), api.ListRules{Method: api.MeHare, Seats: 2, Bonus: 1}, none, api.ErrState, rivals},
		{"the same without a bonus", parties([][2]int{{most, 1}, {1, 2}, {most, 2}, {1, 1}}), api.ListRules{Method: api.MeHare, Seats: 2}, none, api.ErrQuota, noCensus},
		{"the same, where neither passes", parties([][2]int{{most, 1}, {1, 2}, {most, 2}, {1, 1}}), api.ListRules{Method: api.MeHare, Seats: 2, Joint: 5001}, none, api.ErrNone, noList},
	})
}
