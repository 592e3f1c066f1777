package list_test

import (
	"math"
	"math/big"
	"math/rand"
	"slices"
	"testing"

	"wardmote/api"
	"wardmote/divisor"
	"wardmote/list"
	"wardmote/quota"
)

// The tests compare package list with a second one, which computes the chapter's sentences as they stand, with the awards
// of packages quota and divisor, and with math/big for thresholds.

var quotas = []int{api.MeHare, api.MeDroop, api.MeHagenbach, api.MeImperiali}

var divisors = []int{api.MeAdams, api.MeDean, api.MeHill, api.MeWebster, api.MeJefferson}

var methods = slices.Concat(quotas, divisors)

// noMethods has numbers before, between and behind the methods.
var noMethods = []int{math.MinInt, -1, api.MeHare - 1, api.MeImperiali + 1, 7, api.MeAdams - 1, api.MeJefferson + 1, math.MaxInt}

// How Give can end.
const (
	noList    = "no list passes"
	rivals    = "two lists have the most votes for the bonus"
	noCensus  = "the lists' votes are no census"
	failed    = "the award of the lists fails"
	open      = "seats are open among the lists"
	failedIn  = "the award of an alliance fails"
	openIn    = "seats are open in an alliance"
	onlyBonus = "all seats are the bonus"
	decided   = "all seats are decided"
)

// outcome is what the functions should return for valid parties and rules.
type outcome struct {
	lists  [][]int
	passes []bool // for each party
	award  api.Award
	level  api.Errno
	seats  []int
	give   api.Errno
	wasted int
	end    string
}

// awarded returns the award by a method.
func awarded(votes []int, seats, method int) (api.Award, api.Errno) {
	if method >= api.MeAdams {
		return divisor.Give(votes, seats, method, nil)
	}
	return quota.Give(votes, seats, method, nil)
}

// listed returns the lists.
func listed(l []api.Party) [][]int {
	var found [][]int
	for i, p := range l {
		if p.Alliance == 0 {
			found = append(found, []int{i})
			continue
		}
		var allies []int
		for k, q := range l {
			if q.Alliance == p.Alliance {
				allies = append(allies, k)
			}
		}
		if allies[0] == i {
			found = append(found, allies)
		}
	}
	return found
}

// votesOf returns the votes of each party of a list.
func votesOf(l []api.Party, members []int) []int {
	var votes []int
	for _, i := range members {
		votes = append(votes, l[i].Votes)
	}
	return votes
}

func total(numbers []int) int {
	sum := 0
	for _, n := range numbers {
		sum += n
	}
	return sum
}

// passes says whether a list passes.
func passes(l []api.Party, members []int, r api.ListRules) bool {
	all := 0
	for _, p := range l {
		all += p.Votes
	}
	part := big.NewRat(int64(total(votesOf(l, members))), int64(all))
	if l[members[0]].Alliance != 0 {
		return part.Sign() > 0 && part.Cmp(big.NewRat(int64(r.Joint), 10000)) >= 0
	}
	return part.Sign() > 0 && part.Cmp(big.NewRat(int64(r.Threshold), 10000)) >= 0
}

// level returns the award of lists, of whose votes those are counted that pass, and how that ended.
func level(votes []int, r api.ListRules) (api.Award, api.Errno, string) {
	most, leaders := 0, []int(nil)
	for i, n := range votes {
		if n > most {
			most, leaders = n, nil
		}
		if n == most && n > 0 {
			leaders = append(leaders, i)
		}
	}
	switch {
	case most == 0:
		return api.Award{}, api.ErrNone, noList
	case r.Bonus > 0 && len(leaders) > 1:
		return api.Award{}, api.ErrState, rivals
	case r.Bonus == r.Seats:
		seats := make([]int, len(votes))
		seats[leaders[0]] = r.Seats
		return api.Award{Seats: seats}, api.OK, onlyBonus
	}
	award, e := awarded(votes, r.Seats-r.Bonus, r.Method)
	switch e {
	case api.ErrFail:
		return api.Award{}, e, failed
	case api.ErrQuota:
		return api.Award{}, e, noCensus
	}
	award.Seats[leaders[0]] += r.Bonus
	if award.Open > 0 {
		return award, e, open
	}
	return award, e, decided
}

// shared returns the seats of the parties of lists that have so many.
func shared(l []api.Party, lists [][]int, won []int, method int) ([]int, api.Errno, string) {
	seats := make([]int, len(l))
	for number, members := range lists {
		if len(members) == 1 {
			seats[members[0]] = won[number]
			continue
		}
		if won[number] == 0 {
			continue
		}
		award, e := awarded(votesOf(l, members), won[number], method)
		switch {
		case e != api.OK:
			return nil, e, failedIn
		case award.Open > 0:
			return nil, api.ErrState, openIn
		}
		for i, party := range members {
			seats[party] = award.Seats[i]
		}
	}
	return seats, api.OK, ""
}

// expected returns what the functions should return.
func expected(l []api.Party, r api.ListRules) outcome {
	x := outcome{lists: listed(l), passes: make([]bool, len(l))}
	var votes []int
	for _, members := range x.lists {
		votes = append(votes, 0)
		if passes(l, members, r) {
			votes[len(votes)-1] = total(votesOf(l, members))
			for _, i := range members {
				x.passes[i] = true
			}
		}
	}
	x.award, x.level, x.end = level(votes, r)
	if x.give = x.level; x.give != api.OK {
		return x
	}
	if x.award.Open > 0 {
		x.give = api.ErrState
		return x
	}
	var end string
	if x.seats, x.give, end = shared(l, x.lists, x.award.Seats, r.Method); x.give != api.OK {
		x.end = end
		return x
	}
	for i, seats := range x.seats {
		if seats == 0 {
			x.wasted += l[i].Votes
		}
	}
	return x
}

func sameLists(a, b [][]int) bool { return slices.EqualFunc(a, b, slices.Equal) }

func sameAward(a, b api.Award) bool {
	return slices.Equal(a.Seats, b.Seats) && slices.Equal(a.Tied, b.Tied) && a.Open == b.Open
}

func isEmpty(a api.Award) bool { return a.Seats == nil && a.Tied == nil && a.Open == 0 }

// check compares all functions with the second program, for valid parties and rules, and returns what was expected.
func check(t *testing.T, l []api.Party, r api.ListRules) outcome {
	t.Helper()
	want := expected(l, r)
	before := slices.Clone(l)
	if e := list.Check(l); e != api.OK {
		t.Errorf("Check(%v): error %d", l, e)
	}
	if got, e := list.Lists(l); !sameLists(got, want.lists) || e != api.OK {
		t.Errorf("Lists(%v): %v, error %d; want %v", l, got, e, want.lists)
	}
	if got, e := list.Pass(l, r); !slices.Equal(got, want.passes) || e != api.OK {
		t.Errorf("Pass(%v, %v): %v, error %d; want %v", l, r, got, e, want.passes)
	}
	if got, e := list.Level(l, r); !sameAward(got, want.award) || e != want.level || e != api.OK && !isEmpty(got) {
		t.Errorf("Level(%v, %v): %v, error %d; want %v, error %d: %s", l, r, got, e, want.award, want.level, want.end)
	}
	if got, e := list.Give(l, r); !slices.Equal(got, want.seats) || e != want.give || e != api.OK && got != nil {
		t.Errorf("Give(%v, %v): %v, error %d; want %v, error %d: %s", l, r, got, e, want.seats, want.give, want.end)
	}
	if got, e := list.Wasted(l, r); got != want.wasted || e != want.give {
		t.Errorf("Wasted(%v, %v): %d, error %d; want %d, error %d: %s", l, r, got, e, want.wasted, want.give, want.end)
	}
	if !slices.Equal(l, before) {
		t.Errorf("the parties %v were written to: they are %v", before, l)
	}
	return want
}

// random draws arguments.
type random struct{ *rand.Rand }

// parties returns valid parties, so many, with up to so many votes each. Some have none, and others much less, or as many
// as another one.
func (r random) parties(count, most, alliances int) []api.Party {
	l := make([]api.Party, count)
	for i := range l {
		switch r.Intn(12) {
		case 0:
		case 1, 2, 3, 4:
			l[i].Votes = r.Intn(most/10 + 2)
		case 5:
			l[i].Votes = l[r.Intn(i+1)].Votes
		default:
			l[i].Votes = r.Intn(most + 1)
		}
		if r.Intn(4) > 0 {
			l[i].Alliance = r.Intn(alliances + 1)
		}
	}
	l[r.Intn(count)].Votes = 1 + r.Intn(most)
	return l
}

// rules returns valid rules with a method, and up to so many seats.
func (r random) rules(method, most int) api.ListRules {
	x := api.ListRules{Method: method, Seats: 1 + r.Intn(most)}
	thresholds := []int{0, 300, 1000, 3000, 10000}
	x.Threshold, x.Joint = r.Intn(thresholds[r.Intn(5)]+1), r.Intn(thresholds[r.Intn(5)]+1)
	switch r.Intn(8) {
	case 0, 1:
		x.Bonus = r.Intn(x.Seats + 1)
	case 2:
		x.Bonus = x.Seats
	}
	return x
}

// alone returns parties without alliances.
func alone(votes ...int) []api.Party {
	var l []api.Party
	for _, n := range votes {
		l = append(l, api.Party{Votes: n})
	}
	return l
}

// allied returns parties in one alliance.
func allied(alliance int, votes ...int) []api.Party {
	l := alone(votes...)
	for i := range l {
		l[i].Alliance = alliance
	}
	return l
}

// parties returns parties by their votes and alliances.
func parties(pairs [][2]int) []api.Party {
	var l []api.Party
	for _, p := range pairs {
		l = append(l, api.Party{Votes: p[0], Alliance: p[1]})
	}
	return l
}

func rules(method, seats, threshold, joint, bonus int) api.ListRules {
	return api.ListRules{Method: method, Seats: seats, Threshold: threshold, Joint: joint, Bonus: bonus}
}

// repeated returns a list of a number, so many times.
func repeated(n, times int) []int { return slices.Repeat([]int{n}, times) }
