package rinse

import "testing"

func TestAllowance(t *testing.T) {
	take := allowance(5, refusal{ErrPacked, 7})
	for _, c := range []struct {
		n    int
		want refusal
	}{{0, refusal{}}, {3, refusal{}}, {3, refusal{ErrPacked, 7}}, {2, refusal{}}, {0, refusal{}}, {1, refusal{ErrPacked, 7}}} {
		if why := answer(func() { take(c.n) }); why != c.want {
			t.Errorf("taking %d: %v, want %v", c.n, why, c.want)
		}
	}
}

func TestAllowancesAreApart(t *testing.T) {
	one, other := allowance(1, refusal{errno: ErrSteps}), allowance(1, refusal{errno: ErrOut})
	one(1)
	if why := answer(func() { other(1) }); why.errno != OK {
		t.Errorf("one took from the other: %v", why)
	}
}
