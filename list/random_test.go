package list_test

import (
	"math/rand"
	"testing"

	"wardmote/api"
)

// P11.1 to P11.3, against the second program.

// vectors returns all lists of so many numbers below a limit.
func vectors(length, limit int) [][]int {
	if length == 0 {
		return [][]int{nil}
	}
	var all [][]int
	for _, l := range vectors(length-1, limit) {
		for n := range limit {
			all = append(all, append(l[:len(l):len(l)], n))
		}
	}
	return all
}

// expectEnds expects that the calls ended in all ways, each at least so many times.
func expectEnds(t *testing.T, ends map[string]int, least int) {
	t.Helper()
	for _, end := range []string{noList, rivals, failed, open, failedIn, openIn, onlyBonus, decided} {
		if ends[end] < least {
			t.Errorf("the test is wrong: only %d times %s", ends[end], end)
		}
	}
}

func TestFewParties(t *testing.T) {
	ends := map[string]int{}
	for count := 1; count <= 4; count++ {
		for _, votes := range vectors(count, []int{0, 5, 5, 4, 3}[count]) {
			if total(votes) == 0 {
				continue
			}
			for number, alliances := range vectors(count, 3) {
				l := alone(votes...)
				for i, a := range alliances {
					l[i].Alliance = a
				}
				for i, method := range methods {
					x := number + i
					r := api.ListRules{Method: method, Seats: 1 + x%5, Threshold: x % 7 * 1000, Joint: x % 3 * 2500}
					ends[check(t, l, r).end]++
					r.Bonus = 1 + x%r.Seats
					ends[check(t, l, r).end]++
				}
			}
		}
	}
	expectEnds(t, ends, 200)
}

func TestPartiesAtRandom(t *testing.T) {
	r := random{rand.New(rand.NewSource(1))}
	ends := map[string]int{}
	for range 20000 {
		l := r.parties(1+r.Intn(api.ListMax), []int{5, 40, 1000, api.MaxPeople / 12}[r.Intn(4)], []int{1, 3, api.ListMax}[r.Intn(3)])
		ends[check(t, l, r.rules(methods[r.Intn(9)], []int{6, 40, api.MaxSeats}[r.Intn(3)])).end]++
	}
	expectEnds(t, ends, 100)
	for range 3000 {
		l := r.parties(1+r.Intn(api.ListMax), api.MaxPeople, 3)
		ends[check(t, l, r.rules(methods[r.Intn(9)], api.MaxSeats)).end]++
	}
	if ends[noCensus] < 200 {
		t.Errorf("the test is wrong: only %d times %s", ends[noCensus], noCensus)
	}
}
