package rinse

import (
	"math"
	"strings"
	"testing"
)

// someFile is short, and has some of each: a title, kids, pages in a ring, a box, a text that is packed, and much that is dropped. writtenOfSome is what is to be written of it.
func someFile(t *testing.T) string {
	return fileOf(2, packedText(1, deflate(t, 9, "abcabcabc")), "2<</Title(a)/Kids[@3 @9@3]/Type/Root/A 1>>;", "3<</Type/Page/Next@4/Box[1 -0 02.50 4]>>;", "4<</Type/Page/Next@3/Text@1>>;", "5null;")
}

func writtenOfSome() string {
	return fileOf(1, "1 <</Type/Root/Kids[@2 @2]/Title(a)>>;\n", "2 <</Type/Page/Box[1 0 2.5 4]/Next@3>>;\n", "3 <</Type/Page/Next@2/Text@4>>;\n", "4 <</Type/Text>>~9:abcabcabc;\n")
}

// wrongFiles have each error of Check, by its number.
func wrongFiles() map[Errno]string {
	nested := head + plainRoot + "2(3null;);"
	return map[Errno]string{
		ErrLong:    head + strings.Repeat(" ", 9000),
		ErrHead:    "x",
		ErrTable:   head,
		ErrObject:  fileOf(1, plainRoot, "2nil;"),
		ErrNest:    fileOf(1, plainRoot, "2[[[[[[[]]]]]]];"),
		ErrTwice:   fileOf(1, plainRoot, "2<</A 1/A 1>>;"),
		ErrOverlap: nested + tableOf(len(nested), 1, 5, second, second+2),
		ErrPacked:  fileOf(1, plainRoot, packedText(2, noPacking)),
		ErrRoot:    fileOf(1, "1null;"),
		ErrBig:     bigFile(9001),
	}
}

// TestWrongFiles: each of them is what it is said to be.
func TestWrongFiles(t *testing.T) {
	for errno := ErrLong; errno <= ErrBig; errno++ {
		if e, _ := Check(wrongFiles()[errno]); e != errno {
			t.Errorf("error %d: %d", errno, e)
		}
	}
}

// files are someFile, and the wrong ones by their errors.
func files(t *testing.T) []string {
	list := []string{someFile(t)}
	for errno := ErrLong; errno <= ErrBig; errno++ {
		list = append(list, wrongFiles()[errno])
	}
	return list
}

// TestArg: limits that may not be are told ahead of all else, also of what is wrong with the file (P4).
func TestArg(t *testing.T) {
	for _, file := range append(files(t), oddStrings()...) {
		for _, steps := range []int{math.MinInt, -100000001, -1, 0, 1, 100000000, 100000001, math.MaxInt} {
			for _, out := range []int{math.MinInt, -9001, -1, 0, 1, 9000, 9001, math.MaxInt} {
				l := Limits{steps, out}
				if steps < 0 || steps > 100000000 || out < 0 || out > 9000 {
					wantRinse(t, "limits that may not be", file, l, "", ErrArg)
				} else if _, e, _ := Rinse(file, l); e == ErrArg {
					t.Errorf("P4: %.300q: %v may be", file, l)
				}
			}
		}
	}
}

// TestRoom: the room is great enough just if what is to be written fits (P4).
func TestRoom(t *testing.T) {
	file, want := someFile(t), writtenOfSome()
	for out := range 9001 {
		written, errno := want, OK
		if out < len(want) {
			written, errno = "", ErrOut
		}
		wantRinse(t, "rising room", file, Limits{100000000, out}, written, errno)
	}
}

// TestRoomBesideErrors: an error of Check needs none (P4).
func TestRoomBesideErrors(t *testing.T) {
	for errno, file := range wrongFiles() {
		_, place := Check(file)
		for _, out := range []int{0, 1, 8999, 9000} {
			for _, steps := range []int{enough(file), 100000000} {
				if written, e, at := Rinse(file, Limits{steps, out}); written != "" || e != errno || at != place {
					t.Errorf("P4: error %d, out %d: %.300q, %d, %d, want place %d", errno, out, written, e, at, place)
				}
			}
		}
	}
}

// TestRoomForTheGreatest: what fills a file to its last byte.
func TestRoomForTheGreatest(t *testing.T) {
	file, written := bigFileWritten(9000)
	wantRinse(t, "9000 bytes", file, greatest(), written, OK)
	wantRinse(t, "9000 bytes", file, Limits{100000000, 8999}, "", ErrOut)
	wantRinse(t, "9001 bytes", bigFile(9001), Limits{100000000, 8999}, "", ErrBig)
	wantRinse(t, "9001 bytes", bigFile(9001), Limits{100000000, 0}, "", ErrBig)
}

// least finds how many steps a file takes at least, with all the room.
func least(t *testing.T, file string) int {
	t.Helper()
	few, many := -1, maxSteps
	for many-few > 1 {
		middle := (few + many) / 2
		if _, e, _ := Rinse(file, Limits{middle, 9000}); e == ErrSteps {
			few = middle
		} else {
			many = middle
		}
	}
	return many
}

// TestRisingSteps: first ErrSteps, and from some number of steps on what the greatest limits answer (P5).
func TestRisingSteps(t *testing.T) {
	for _, file := range files(t) {
		bound := least(t, file)
		written, errno, place := Rinse(file, greatest())
		step := 1 + bound/3000
		for steps := bound % step; steps < bound+3000*step; steps += step {
			w, e, at := Rinse(file, Limits{steps, 9000})
			if steps < bound && (w != "" || e != ErrSteps || at != 0) || steps >= bound && (w != written || e != errno || at != place) {
				t.Fatalf("P5: %.300q: %d of %d steps: %.300q, %d, %d", file, steps, bound, w, e, at)
			}
		}
	}
}

// TestLittleOfBoth: too few steps beside too little room, and the one beside enough of the other (P5).
func TestLittleOfBoth(t *testing.T) {
	file, want := someFile(t), writtenOfSome()
	bound := least(t, file)
	wantRinse(t, "too little of both", file, Limits{bound - 1, len(want) - 1}, "", ErrSteps)
	wantRinse(t, "nothing of both", file, Limits{0, 0}, "", ErrSteps)
	wantRinse(t, "too few steps", file, Limits{bound - 1, 9000}, "", ErrSteps)
	wantRinse(t, "too little room", file, Limits{bound, len(want) - 1}, "", ErrOut)
	wantRinse(t, "just enough of both", file, Limits{bound, len(want)}, want, OK)
}

// dearFiles are those that take the most steps of their sort: of objects one in another, of kids, of blocks in a packing, of what comes out of it, of what is written.
func dearFiles(t *testing.T) []string {
	kids := fileOf(1, "1<</Type/Root/Kids["+strings.Repeat("@2", 2900)+"]>>;", "2<</Type/Page>>;")
	dropped := fileOf(1, "1<</Type/Root/Kids["+strings.Repeat("@2@0 ", 1700)+"]>>;", "2<</Type/Page>>;")
	inString := head + plainRoot + "3(" + strings.Repeat("2[null];", 1100) + ");"
	blocks := new(packer)
	for range 6900 {
		blocks.head(0, 1).fixedEnd()
	}
	blocks.head(1, 1).fixedEnd()
	texts := []string{plainRoot}
	for number := 2; number <= 30; number++ {
		texts = append(texts, packedText(number, deflate(t, 9, strings.Repeat("x", 2000))))
	}
	big, written := bigFileWritten(9000)
	return []string{kids, dropped, inString + tableOf(len(inString), 1, 5, second+2, second), fileOf(1, plainRoot, packedText(2, blocks.String())), fileOf(1, texts...), fileOf(1, "1[["+strings.Repeat("[]", 4400)+"]];"), big, written, bigFile(9001), head + strings.Repeat("xref ", 1799)}
}

// TestDearFiles: even these take far fewer steps than are great enough.
func TestDearFiles(t *testing.T) {
	for i, file := range dearFiles(t) {
		if len(file) > 9000 {
			t.Fatal(i, len(file))
		}
		if bound := least(t, file); bound > 5000000 {
			t.Errorf("P4: file %d takes %d steps", i, bound)
		}
		written, errno, place := Rinse(file, greatest())
		if w, e, at := Rinse(file, Limits{enough(file), 9000}); w != written || e != errno || at != place {
			t.Errorf("P4: file %d with enough steps: %.300q, %d, %d", i, w, e, at)
		}
	}
}

// TestLimitsOfEverySort: damaged files, with limits of every sort, end in an answer: too little, or that of the greatest limits (P1, P5).
func TestLimitsOfEverySort(t *testing.T) {
	steps := []int{math.MinInt, -1, 0, 1, 100, 200, 400, 700, 1000, 1500, 2000, 3000, 10000, 30000, 100000, 60000000, 100000000, 100000001, math.MaxInt}
	outs := []int{-1, 0, 30, 50, 100, 250, 300, 8999, 9000, 9001}
	i := 0
	seen := map[Errno]int{}
	for file := range damaged(t) {
		l := Limits{steps[i%len(steps)], outs[i%len(outs)]}
		i++
		written, errno, place := Rinse(file, l)
		seen[errno]++
		if errno == ErrArg != !l.mayBe() || errno != OK && written != "" || !hasPlace(errno) && place != 0 {
			t.Errorf("P1: %.300q, %v: %.300q, %d, %d", file, l, written, errno, place)
		}
		if errno == ErrArg || errno == ErrSteps || errno == ErrOut {
			continue
		}
		if w, e, at := Rinse(file, greatest()); w != written || e != errno || at != place {
			t.Errorf("P5: %.300q, %v: %.300q, %d, %d, with the greatest limits %.300q, %d, %d", file, l, written, errno, place, w, e, at)
		}
	}
	for _, errno := range []Errno{OK, ErrArg, ErrObject, ErrSteps, ErrOut} {
		if seen[errno] == 0 {
			t.Errorf("nothing is answered with %d", errno)
		}
	}
}
