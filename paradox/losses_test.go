package paradox

import (
	"testing"

	"wardmote/api"
)

// P10.2, P10.3: what is yielded may be left at any loss. Only First leaves losses, and it leaves the first one.
func TestLossesThatAreLeft(t *testing.T) {
	before := year{census{[]int{15, 4, 3, 8, 19}}, []int{3, 1, 0, 2, 4}}
	after := year{census{[]int{7, 10, 1, 4, 9}}, []int{2, 3, 1, 1, 3}}
	for name, losses := range map[string]func(yield func([2]int) bool){
		"the house":             census{[]int{3, 1, 3, 5, 1}}.shrinking(api.MeHare, 1, 60),
		"people, three losers":  after.wronged(before),
		"people, three winners": before.wronged(after),
	} {
		var all [][2]int
		for loss := range losses {
			all = append(all, loss)
		}
		if len(all) < 3 {
			t.Errorf("the test is wrong: %s loses only %v", name, all)
		}
		for count := range len(all) {
			var some [][2]int
			for loss := range losses {
				some = append(some, loss)
				if len(some) > count {
					break
				}
			}
			for i := range some {
				if len(some) != count+1 || some[i] != all[i] {
					t.Errorf("%s, left behind %d: %v of %v", name, count+1, some, all)
				}
			}
		}
	}
}
