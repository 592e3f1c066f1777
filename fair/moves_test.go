package fair

import "testing"

// P9.3: no exported function leaves the pairs before they end, but the function that yields them bears it.
func TestMovesThatAreLeft(t *testing.T) {
	all := sides([]int{3, 0, 2, 1}, []int{1, 1, 0, 2})
	want := [][2]int{{0, 2}, {0, 3}, {3, 0}, {3, 2}}
	for count := range len(want) + 1 {
		var got [][2]int
		for from, to := range moves(all) {
			if len(got) == count {
				break
			}
			got = append(got, [2]int{from.number, to.number})
		}
		if len(got) != count {
			t.Fatalf("%d pairs; want %d", len(got), count)
		}
		for i := range got {
			if got[i] != want[i] {
				t.Errorf("pair %d: %v; want %v", i, got[i], want[i])
			}
		}
	}
}
