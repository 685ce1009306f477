package rinse

import "testing"

// fault tells what a call panics with, if that is no refusal: answer would hide it.
func fault(call func()) (what any) {
	defer func() {
		what = recover()
		if _, ok := what.(refusal); ok {
			what = nil
		}
	}()
	call()
	return nil
}

func TestAnswer(t *testing.T) {
	for _, c := range []struct {
		what string
		work func()
		want refusal
	}{
		{"work that is done", func() {}, refusal{OK, 0}},
		{"a refusal", func() { refuse(ErrNest, 12) }, refusal{ErrNest, 12}},
		{"a refusal without a place", func() { refuse(ErrBig, 0) }, refusal{ErrBig, 0}},
		{"a fault of the program", func() { panic("fault") }, refusal{ErrObject, 0}},
		{"a fault of the program", func() { _ = []int(nil)[len("x")] }, refusal{ErrObject, 0}},
	} {
		if why := answer(c.work); why != c.want {
			t.Errorf("%s: %v, want %v", c.what, why, c.want)
		}
	}
}

func TestFault(t *testing.T) {
	if what := fault(func() { refuse(ErrNest, 12) }); what != nil {
		t.Errorf("a refusal is no fault: %v", what)
	}
	if what := fault(func() { panic("fault") }); what != "fault" {
		t.Errorf("a fault is one: %v", what)
	}
}
