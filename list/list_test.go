package list_test

import (
	"math"
	"slices"
	"testing"

	"wardmote/api"
	"wardmote/list"
)

// example returns the parties and the rules of the chapter's examples.
func example() ([]api.Party, api.ListRules) {
	return parties([][2]int{{50, 0}, {30, 1}, {15, 1}, {5, 0}}), api.ListRules{Method: api.MeWebster, Seats: 10, Threshold: 1000}
}

// The chapter's examples.
func TestExamples(t *testing.T) {
	l, r := example()
	if got, e := list.Lists(l); !sameLists(got, [][]int{{0}, {1, 2}, {3}}) || e != api.OK {
		t.Errorf("Lists: %v, error %d", got, e)
	}
	if got, e := list.Pass(l, r); !slices.Equal(got, []bool{true, true, true, false}) || e != api.OK {
		t.Errorf("Pass: %v, error %d", got, e)
	}
	if got, e := list.Level(l, r); !sameAward(got, api.Award{Seats: []int{5, 5, 0}}) || e != api.OK {
		t.Errorf("Level: %v, error %d", got, e)
	}
	if got, e := list.Give(l, r); !slices.Equal(got, []int{5, 3, 2, 0}) || e != api.OK {
		t.Errorf("Give: %v, error %d", got, e)
	}
	if got, e := list.Wasted(l, r); got != 5 || e != api.OK {
		t.Errorf("Wasted: %d, error %d", got, e)
	}
	r.Bonus = 4
	if got, e := list.Give(l, r); !slices.Equal(got, []int{7, 2, 1, 0}) || e != api.OK {
		t.Errorf("Give with a bonus: %v, error %d", got, e)
	}
	r.Bonus, r.Threshold = 0, 0
	if got, e := list.Level(l, r); !sameAward(got, api.Award{Seats: []int{5, 4, 0}, Tied: []int{1, 2}, Open: 1}) || e != api.OK {
		t.Errorf("Level without a threshold: %v, error %d", got, e)
	}
	if got, e := list.Give(l, r); got != nil || e != api.ErrState {
		t.Errorf("Give without a threshold: %v, error %d", got, e)
	}
	r.Threshold, r.Joint = 6000, 6000
	if got, e := list.Give(l, r); got != nil || e != api.ErrNone {
		t.Errorf("Give with thresholds of 6000: %v, error %d", got, e)
	}
	if got, e := list.Give(alone(5, 5), api.ListRules{Method: api.MeWebster, Seats: 1}); got != nil || e != api.ErrState {
		t.Errorf("Give of one seat to two equal parties: %v, error %d", got, e)
	}
}

// P11.1

func TestCheckOfValidParties(t *testing.T) {
	for _, l := range [][]api.Party{
		alone(1), alone(api.MaxPeople), alone(0, 1), alone(1, 0), alone(repeated(api.MaxPeople, 12)...), alone(append(repeated(0, 11), 1)...),
		allied(1, 1), allied(12, 1), allied(12, repeated(api.MaxPeople, 12)...), allied(7, 0, 0, 1),
	} {
		if e := list.Check(l); e != api.OK {
			t.Errorf("Check(%v): error %d", l, e)
		}
	}
}

// invalid are lists of parties that are not valid.
func invalid() [][]api.Party {
	return [][]api.Party{
		nil, {},
		alone(repeated(1, 13)...), alone(append(repeated(0, 12), 1)...), allied(1, repeated(1, 13)...), alone(repeated(1, 1000000)...),
		alone(0), alone(0, 0), allied(3, 0, 0), alone(repeated(0, 12)...), alone(repeated(0, 13)...),
		alone(-1), alone(3, -1), alone(-1, 3), alone(-1, 1), alone(-3, 2), alone(math.MinInt), alone(5, math.MinInt), alone(math.MinInt, math.MinInt),
		alone(api.MaxPeople + 1), alone(3, api.MaxPeople+1), alone(api.MaxPeople+1, 3), alone(math.MaxInt), alone(3, math.MaxInt), alone(math.MaxInt, math.MaxInt, 3),
		allied(-1, 3), allied(13, 3), allied(math.MinInt, 3), allied(math.MaxInt, 3),
		parties([][2]int{{3, 1}, {3, -1}}), parties([][2]int{{3, -1}, {3, 1}}), parties([][2]int{{3, 0}, {0, -1}}),
		parties([][2]int{{3, 12}, {3, 13}}), parties([][2]int{{3, 13}, {3, 12}}), parties([][2]int{{3, 0}, {0, 13}}),
	}
}

func TestLists(t *testing.T) {
	for _, x := range []struct {
		name      string
		alliances []int
		want      [][]int
	}{
		{"one party", []int{0}, [][]int{{0}}},
		{"an alliance of one party", []int{7}, [][]int{{0}}},
		{"no alliances", []int{0, 0, 0}, [][]int{{0}, {1}, {2}}},
		{"three alliances of one party", []int{3, 1, 2}, [][]int{{0}, {1}, {2}}},
		{"an alliance of all", []int{4, 4, 4}, [][]int{{0, 1, 2}}},
		{"an alliance whose parties stand apart", []int{1, 0, 1}, [][]int{{0, 2}, {1}}},
		{"two alliances by turns, the second one first", []int{2, 1, 2, 1}, [][]int{{0, 2}, {1, 3}}},
		{"an alliance within another one", []int{9, 3, 3, 9}, [][]int{{0, 3}, {1, 2}}},
		{"a party between, one before, and one behind", []int{0, 5, 0, 5, 0}, [][]int{{0}, {1, 3}, {2}, {4}}},
		{"an alliance of the first one and the last one of all", []int{12, 1, 2, 3, 4, 5, 6, 7, 8, 9, 10, 12}, [][]int{{0, 11}, {1}, {2}, {3}, {4}, {5}, {6}, {7}, {8}, {9}, {10}}},
		{"all twelve alliances, from the last one", []int{12, 11, 10, 9, 8, 7, 6, 5, 4, 3, 2, 1}, [][]int{{0}, {1}, {2}, {3}, {4}, {5}, {6}, {7}, {8}, {9}, {10}, {11}}},
		{"six alliances, there and back", []int{1, 2, 3, 4, 5, 6, 6, 5, 4, 3, 2, 1}, [][]int{{0, 11}, {1, 10}, {2, 9}, {3, 8}, {4, 7}, {5, 6}}},
		{"twelve parties in one alliance", repeated(12, 12), [][]int{{0, 1, 2, 3, 4, 5, 6, 7, 8, 9, 10, 11}}},
	} {
		// The votes do not matter: at first only the last party has some, then only the first one, and then all have.
		last, first, all := make([]api.Party, len(x.alliances)), make([]api.Party, len(x.alliances)), make([]api.Party, len(x.alliances))
		for i, a := range x.alliances {
			last[i].Alliance, first[i].Alliance, all[i] = a, a, api.Party{Votes: 10 + i, Alliance: a}
		}
		last[len(last)-1].Votes, first[0].Votes = 1, 1
		for _, l := range [][]api.Party{last, first, all} {
			if got, e := list.Lists(l); !sameLists(got, x.want) || e != api.OK {
				t.Errorf("%s: Lists(%v): %v, error %d; want %v", x.name, l, got, e, x.want)
			}
		}
	}
}

// Worked out by hand.
func TestPass(t *testing.T) {
	great := func(first, second, alliance int) []api.Party { // 10^10 votes, if the two together have 10^9
		return append(parties([][2]int{{first, alliance}, {second, 0}}), alone(repeated(api.MaxPeople, 9)...)...)
	}
	for _, x := range []struct {
		name             string
		l                []api.Party
		threshold, joint int
		want             []bool // of the first parties
	}{
		{"no thresholds: whoever has votes", alone(1, 0, api.MaxPeople), 0, 0, []bool{true, false, true}},
		{"no thresholds, alliances: whoever has votes", parties([][2]int{{0, 1}, {1, 1}, {0, 2}, {0, 2}, {0, 3}, {5, 4}}), 0, 0, []bool{true, true, false, false, false, true}},
		{"a quarter exactly", alone(25, 75), 2500, 0, []bool{true, true}},
		{"one vote less than a quarter", alone(24, 76), 2500, 0, []bool{false, true}},
		{"one vote more than a quarter", alone(26, 74), 2500, 0, []bool{true, true}},
		{"a quarter, and a little more is needed", alone(25, 75), 2501, 0, []bool{false, true}},
		{"votes of parties that do not pass count as votes", alone(24, 52, 24), 2500, 0, []bool{false, true, false}},
		{"all votes, and all are needed", alone(7), 10000, 0, []bool{true}},
		{"all votes, and another party without votes", alone(7, 0), 10000, 0, []bool{true, false}},
		{"all but one, and all are needed", alone(api.MaxPeople, 1), 10000, 0, []bool{false, false}},
		{"all but one, and all but 10^-4 are needed", alone(9999, 1), 9999, 0, []bool{true, false}},
		{"one vote of 10^4, and 10^-4 is needed", alone(9999, 1), 1, 0, []bool{true, true}},
		{"one vote of 10^4 + 1, and 10^-4 is needed", alone(10000, 1), 1, 0, []bool{true, false}},
		{"a party does not have to reach the joint threshold", alone(7), 0, 10000, []bool{true}},
		{"nor an alliance the other one", allied(1, 7, 3), 10000, 0, []bool{true, true}},
		{"an alliance of one party has to reach the joint threshold", parties([][2]int{{30, 1}, {70, 0}}), 0, 4000, []bool{false, true}},
		{"and not the other one", parties([][2]int{{30, 1}, {70, 0}}), 4000, 0, []bool{true, true}},
		{"the allies together reach it exactly", parties([][2]int{{20, 1}, {50, 0}, {20, 1}, {10, 0}}), 2000, 4000, []bool{true, true, true, false}},
		{"they lack a vote", parties([][2]int{{20, 1}, {51, 0}, {19, 1}, {10, 0}}), 1000, 4000, []bool{false, true, false, true}},
		{"they have one more", parties([][2]int{{20, 1}, {49, 0}, {21, 1}, {10, 0}}), 1001, 4000, []bool{true, true, true, false}},
		{"an ally without votes passes with the others", parties([][2]int{{0, 3}, {60, 3}, {40, 0}}), 5000, 5000, []bool{true, true, false}},
		{"two alliances, one of which passes", parties([][2]int{{30, 1}, {15, 2}, {30, 1}, {25, 2}}), 0, 5000, []bool{true, false, true, false}},
		{"an alliance of all reaches all votes", allied(12, 1, 2, 0), 10000, 10000, []bool{true, true, true}},
		{"5 * 10^8 of 10^10 exactly", great(500000000, 500000000, 0), 500, 0, []bool{true, true}},
		{"one vote less", great(499999999, 500000001, 0), 500, 0, []bool{false, true}},
		{"one vote more", great(500000001, 499999999, 0), 500, 0, []bool{true, false}},
		{"5 * 10^8 of 10^10 exactly, as an alliance", great(500000000, 500000000, 5), 10000, 500, []bool{true, false}},
		{"one vote less, as an alliance", great(499999999, 500000001, 5), 0, 500, []bool{false, true}},
		{"one vote more, as an alliance", great(500000001, 499999999, 5), 0, 500, []bool{true, true}},
		{"a twelfth is not enough", alone(repeated(api.MaxPeople, 12)...), 834, 0, repeatedBool(false, 12)},
		{"a twelfth is enough", alone(repeated(api.MaxPeople, 12)...), 833, 0, repeatedBool(true, 12)},
		{"all of 12 * 10^9 votes, in an alliance", allied(12, repeated(api.MaxPeople, 12)...), 10000, 10000, repeatedBool(true, 12)},
		{"all but one of 12 * 10^9 votes", append(allied(12, repeated(api.MaxPeople, 11)...), api.Party{Votes: 1}), 0, 10000, append(repeatedBool(false, 11), true)},
	} {
		r := api.ListRules{Method: api.MeHare, Seats: 1, Threshold: x.threshold, Joint: x.joint}
		got, e := list.Pass(x.l, r)
		if len(got) != len(x.l) || !slices.Equal(got[:min(len(got), len(x.want))], x.want) || e != api.OK {
			t.Errorf("%s: Pass(%v, %v): %v, error %d; want %v", x.name, x.l, r, got, e, x.want)
		}
		check(t, x.l, r)
	}
}

func repeatedBool(b bool, times int) []bool { return slices.Repeat([]bool{b}, times) }

// Who passes depends on nothing but the thresholds.
func TestPassByOtherRules(t *testing.T) {
	l := parties([][2]int{{40, 1}, {40, 0}, {20, 0}, {0, 1}})
	for _, method := range methods {
		for _, r := range []api.ListRules{rules(method, 1, 3000, 5000, 0), rules(method, 1, 3000, 5000, 1), rules(method, 1000, 3000, 5000, 0), rules(method, 1000, 3000, 5000, 1000)} {
			if got, e := list.Pass(l, r); !slices.Equal(got, []bool{false, true, false, false}) || e != api.OK {
				t.Errorf("Pass(%v, %v): %v, error %d", l, r, got, e)
			}
		}
	}
}

// A result that was kept stays as it is when another one is written to.
func TestNewLists(t *testing.T) {
	l, r := example()
	before := slices.Clone(l)
	for range 2 {
		lists, _ := list.Lists(l)
		if !sameLists(lists, [][]int{{0}, {1, 2}, {3}}) {
			t.Errorf("Lists a second time: %v", lists)
		}
		for i := range lists {
			lists[i] = append(lists[i], -7) // no list goes on in the memory of another one
		}
		if !sameLists(lists, [][]int{{0, -7}, {1, 2, -7}, {3, -7}}) {
			t.Errorf("Lists, each with a number more: %v", lists)
		}
		for _, members := range lists {
			clear(members)
		}
		isIn, _ := list.Pass(l, r)
		if !slices.Equal(isIn, []bool{true, true, true, false}) {
			t.Errorf("Pass a second time: %v", isIn)
		}
		clear(isIn)
		award, _ := list.Level(l, api.ListRules{Method: api.MeWebster, Seats: 10})
		if !sameAward(award, api.Award{Seats: []int{5, 4, 0}, Tied: []int{1, 2}, Open: 1}) {
			t.Errorf("Level a second time: %v", award)
		}
		clear(award.Seats)
		clear(award.Tied)
		seats, _ := list.Give(l, r)
		if !slices.Equal(seats, []int{5, 3, 2, 0}) {
			t.Errorf("Give a second time: %v", seats)
		}
		clear(seats)
		if !slices.Equal(l, before) {
			t.Errorf("who writes to a result writes to the parties: %v", l)
		}
	}
}
