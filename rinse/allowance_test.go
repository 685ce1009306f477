package rinse

import "testing"

// gaveUp tells with what a call gave up, OK if it did not.
func gaveUp(call func()) (why Errno) {
	defer func() {
		if e, ok := recover().(Errno); ok {
			why = e
		}
	}()
	call()
	return OK
}

func TestAllowance(t *testing.T) {
	take := allowance(5, ErrSteps)
	for _, c := range []struct {
		n    int
		want Errno
	}{{0, OK}, {3, OK}, {3, ErrSteps}, {2, OK}, {0, OK}, {1, ErrSteps}} {
		if why := gaveUp(func() { take(c.n) }); why != c.want {
			t.Errorf("taking %d: %d, want %d", c.n, why, c.want)
		}
	}
}

func TestAllowancesAreApart(t *testing.T) {
	one, other := allowance(1, ErrSteps), allowance(1, ErrOut)
	one(1)
	if why := gaveUp(func() { other(1) }); why != OK {
		t.Errorf("one took from the other: %d", why)
	}
}
