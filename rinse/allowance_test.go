package rinse

import "testing"

func TestAllowance(t *testing.T) {
	take := allowance(5, ErrSteps)
	for _, c := range []struct {
		n    int
		want Errno
	}{{0, OK}, {3, OK}, {3, ErrSteps}, {2, OK}, {0, OK}, {1, ErrSteps}} {
		if why := answer(func() { take(c.n) }); why.errno != c.want || why.place != 0 {
			t.Errorf("taking %d: %v, want %d", c.n, why, c.want)
		}
	}
}

func TestAllowancesAreApart(t *testing.T) {
	one, other := allowance(1, ErrSteps), allowance(1, ErrOut)
	one(1)
	if why := answer(func() { other(1) }); why.errno != OK {
		t.Errorf("one took from the other: %v", why)
	}
}
