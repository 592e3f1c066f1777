package list

import (
	"iter"

	"wardmote/api"
	"wardmote/divisor"
	"wardmote/quota"
)

// ticket is the rules, what makes awards by their method, and the parties that they are for.
type ticket struct {
	api.ListRules
	give func(people []int, seats, method int, least []int) (api.Award, api.Errno)
	roster
}

// ticketOf returns the ticket of valid parties and rules; ErrParty or ErrArg.
func ticketOf(l []api.Party, r api.ListRules) (ticket, api.Errno) {
	if e := Check(l); e != api.OK {
		return ticket{}, e
	}
	if !areRules(r) {
		return ticket{}, api.ErrArg
	}
	t := ticket{ListRules: r, roster: rosterOf(l)}
	switch {
	case isFrom(api.MeHare, api.MeImperiali, r.Method):
		t.give = quota.Give
	case isFrom(api.MeAdams, api.MeJefferson, r.Method):
		t.give = divisor.Give
	default:
		return ticket{}, api.ErrArg
	}
	return t, api.OK
}

// passing yields the lists that pass, with their numbers among all lists.
func (t ticket) passing() iter.Seq2[int, slate] {
	return func(yield func(int, slate) bool) {
		all := votesOf(t.parties)
		for number, s := range t.slates() {
			threshold := t.Threshold
			if s.isAlliance {
				threshold = t.Joint
			}
			if s.votes > 0 && whole*s.votes >= all*threshold && !yield(number, s) {
				return
			}
		}
	}
}
