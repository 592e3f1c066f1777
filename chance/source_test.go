package chance

import (
	"testing"

	"wardmote/api"
)

// P4.2: no state is known from which 200 candidates in a row are not taken, so this test draws without one.
func TestDrawOfWhatIsNotTaken(t *testing.T) {
	for _, x := range []struct {
		taken, want, calls int
		e                  api.Errno
	}{
		{1, 1, 1, api.OK},
		{2, 2, 2, api.OK},
		{200, 200, 200, api.OK},
		{201, 0, 200, api.ErrFail},
		{-1, 0, 200, api.ErrFail},
	} {
		calls := 0
		candidate := func() int { calls++; return calls }
		got, e := draw(candidate, func(n int) bool { return n == x.taken })
		if got != x.want || calls != x.calls || e != x.e {
			t.Errorf("the candidate %d is taken: %d, %d calls, error %d; want %d, %d calls, error %d", x.taken, got, calls, e, x.want, x.calls, x.e)
		}
	}
}

func TestErrorLeavesNoState(t *testing.T) {
	if got, behind, e := withState(from(api.Chance{State: 7}), 5, api.ErrFail); got != 0 || behind != (api.Chance{}) || e != api.ErrFail {
		t.Errorf("%d, state %d, error %d", got, behind.State, e)
	}
	if got, behind, e := withState(from(api.Chance{State: 7}), 5, api.OK); got != 5 || behind.State != 7 || e != api.OK {
		t.Errorf("%d, state %d, error %d", got, behind.State, e)
	}
}
