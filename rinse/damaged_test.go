package rinse

import (
	"iter"
	"strings"
	"testing"
)

// wholeFiles have all kinds of things; each is right but for the last two.
func wholeFiles(t *testing.T) []string {
	_, longest := bigFileWritten(9000)
	nested := head + plainRoot + "2<<>>~6:3null;;"
	return []string{
		fileOf(1, plainRoot),
		fileOf(1, "1 <</Type/Root/Kids[@2 @3]/Title(a\\(b\\))>>;\n", "2 <</Type/Page/Box[0 -1.5 100 200.125]/Next@3/Text@4>>;\n", "3<</Type/Page/Text@5>>;\n", "4<</Type/Text>>~6:;null;;\n", packedText(5, deflate(t, 9, "abcabcabcabc")), "6[null true[false<</A<</B[-1 @7]>>/C 1>>]/Name];", "", "8 12;"),
		fileOf(2, packedText(1, deflate(t, 6, strings.Repeat("x", 2000))), "2\n<<\n/Kids\n[\n]\n/Type\n/Root\n>>\n;", packedText(3, nothing)),
		bigFile(9000),
		longest,
		bigFile(9001),
		nested + tableOf(len(nested), 1, 5, second, second+8),
	}
}

// damaged hands out files that are cut off, that lack pieces, or have other bytes in the place of some.
func damaged(t *testing.T) iter.Seq[string] {
	const signs = "()[]<>/@~:;\\ \n0159.-ntfxAz\t\x00\xff"
	return func(yield func(string) bool) {
		for _, file := range wholeFiles(t) {
			step := 1 + len(file)/250
			for i := 0; i < len(file); i += step {
				if !yield(file[:i]) || !yield(file[i:]) || !yield(file[:i]+file[i+1:]) || !yield(file[:i]+file[min(len(file), i+7):]) || !yield(file[:i]+file[len(file)-i:]) {
					return
				}
				for j := range len(signs) {
					if !yield(file[:i]+signs[j:j+1]+file[i+1:]) || !yield(file[:i]+signs[j:]+file[i:]) {
						return
					}
				}
			}
		}
	}
}

// hasPlace: whether the promise names a place beside an error.
func hasPlace(errno Errno) bool {
	return errno == ErrObject || errno == ErrNest || errno == ErrTwice || errno == ErrOverlap || errno == ErrPacked
}

// TestCheckDamaged: whatever a file is, it has an answer that can be one (P1).
func TestCheckDamaged(t *testing.T) {
	seen := map[Errno]int{}
	for file := range damaged(t) {
		errno, place := Check(file)
		seen[errno]++
		if errno == ErrArg || errno < OK || errno > ErrBig || hasPlace(errno) != (place > 0) || place > 9999 {
			t.Errorf("P1: %.300q: %d, %d", file, errno, place)
		}
		if (errno == ErrOverlap || errno == ErrPacked) && place > 30 {
			t.Errorf("P2: %.300q: %d of object %d", file, errno, place)
		}
	}
	for _, errno := range []Errno{OK, ErrLong, ErrHead, ErrTable, ErrObject, ErrTwice, ErrOverlap, ErrPacked, ErrRoot, ErrBig} {
		if seen[errno] == 0 {
			t.Errorf("no damaged file is answered with %d", errno)
		}
	}
}

// TestRinseGivesUp: Check and Rinse would hide a fault of their own as a refusal.
func TestRinseGivesUp(t *testing.T) {
	for file := range damaged(t) {
		if what := fault(func() { rinse(file, greatest()) }); what != nil {
			t.Errorf("P1: %.300q: %v", file, what)
		}
	}
}

// TestWrittenAgain: what is written of a file is right, and is written again as it is (P6).
func TestWrittenAgain(t *testing.T) {
	for file := range damaged(t) {
		written, errno, _ := Rinse(file, greatest())
		if clean := errno == OK && written == file; Clean(file) != clean {
			t.Errorf("P6: %.300q: clean is %v", file, !clean)
		}
		if errno != OK {
			continue
		}
		if again, e, place := Rinse(written, greatest()); again != written || e != OK || place != 0 || !Clean(written) {
			t.Errorf("P6: %.300q: %.300q: %.300q, %d, %d", file, written, again, e, place)
		}
	}
}
