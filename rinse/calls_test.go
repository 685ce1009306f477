package rinse

import (
	"math"
	"strings"
	"testing"
)

// oddStrings are of no file and of pieces of one, short and long.
func oddStrings() []string {
	return []string{"", "\x00", "DOC1", "DOC1\n", "DOC1\nend\n", "\xff\xfe", "\x03\x00", strings.Repeat("[", 9000), strings.Repeat("\xff", 9001), strings.Repeat("DOC1\n", 100000)}
}

// TestCallsAnswer: every call ends, and with an error all else is empty (P1).
func TestCallsAnswer(t *testing.T) {
	numbers := []int{math.MinInt, -1, 0, 1, 9000, 9001, 100000000, 100000001, math.MaxInt}
	for _, s := range oddStrings() {
		if e, place := Check(s); e == OK && place != 0 {
			t.Errorf("P1: Check(%.20q): OK at %d", s, place)
		}
		if plain, e := Unpack(s); e != OK && plain != "" {
			t.Errorf("P1: Unpack(%.20q): %.20q, %d", s, plain, e)
		}
		for _, steps := range numbers {
			for _, out := range numbers {
				written, e, place := Rinse(s, Limits{Steps: steps, Out: out})
				if e != OK && written != "" || e == OK && place != 0 {
					t.Errorf("P1: Rinse(%.20q, %d, %d): %.20q, %d, %d", s, steps, out, written, e, place)
				}
			}
		}
		Clean(s)
	}
}

// TestErrnos: the errors are these numbers, in this order.
func TestErrnos(t *testing.T) {
	for i, errno := range []Errno{OK, ErrArg, ErrLong, ErrHead, ErrTable, ErrObject, ErrNest, ErrTwice, ErrOverlap, ErrPacked, ErrRoot, ErrBig, ErrSteps, ErrOut} {
		if int(errno) != i {
			t.Errorf("error %d is the number %d", i, errno)
		}
	}
}
