package rinse

import (
	"strconv"
	"strings"
	"testing"
)

// wantRinse: Rinse answers that, beside place 0.
func wantRinse(t *testing.T, what, file string, l Limits, want string, errno Errno) {
	t.Helper()
	if written, e, place := Rinse(file, l); written != want || e != errno || place != 0 {
		t.Errorf("P4: %s: %.300q, %v: %.300q, %d, %d, want %.300q, %d", what, file, l, written, e, place, want, errno)
	}
}

// wantWritten: of a file that is right, that is written; objects are laid out as they stand in it.
func wantWritten(t *testing.T, what, file string, objects ...string) {
	t.Helper()
	wantWhole(t, what, file, fileOf(1, objects...))
}

// wantWhole: of a file, that is written, with limits that are great enough, and again of what is written; with less room, nothing.
func wantWhole(t *testing.T, what, file, want string) {
	t.Helper()
	for _, from := range []string{file, want} {
		wantRinse(t, what, from, Limits{100000000, 9000}, want, OK)
		wantRinse(t, what, from, Limits{enough(from), len(want)}, want, OK)
		wantRinse(t, what, from, Limits{100000000, len(want) - 1}, "", ErrOut)
		wantRinse(t, what, from, Limits{enough(from), 0}, "", ErrOut)
		if Clean(from) != (from == want) {
			t.Errorf("P6: %s: %.300q: clean is %v", what, from, from != want)
		}
	}
}

// wantRoot: of a root with these keys, and two pages and a text beside it, that is kept of the root; what is reached from there comes behind.
func wantRoot(t *testing.T, keys, kept string, behind ...string) {
	t.Helper()
	file := fileOf(1, "1<</Type/Root"+keys+">>;", "2<</Type/Page>>;", "3<</Type/Page/Text@4>>;", "4<</Type/Text>>~2:ab;", "5<</Type/Root>>;", "", "7null;")
	wantWritten(t, "a root", file, append([]string{"1 <</Type/Root" + kept + ">>;\n"}, behind...)...)
}

func TestKeepRoot(t *testing.T) {
	wantRoot(t, "", "")
	wantRoot(t, "/Kids[]", "/Kids[]")
	for _, keys := range []string{"/Kids 1", "/Kids null", "/Kids@2", "/Kids/A", "/Kids(a)", "/Kids<<>>", "/Kid[@2]", "/kids[@2]", "/A<</Kids[@2]>>", "/Box[1 2 3 4]", "/Next@2", "/Text@4", "/A 1/B[]/C()", "/Title 1", "/Title/A", "/Title[]", "/Title[(a)]", "/Title null", "/title(a)"} {
		wantRoot(t, keys, "")
	}
	wantRoot(t, "/Kids[@2]", "/Kids[@2]", "2 <</Type/Page>>;\n")
	wantRoot(t, "/Kids[1@2null@1@4@5@6@7@8@0@9999/A(x)[@3]<</A@3>>@0002]", "/Kids[@2 @2]", "2 <</Type/Page>>;\n")
	wantRoot(t, "/Kids[@1@4@5@6@7@8]", "/Kids[]")
	wantRoot(t, "/Kids[@3@2@3]", "/Kids[@2 @3 @2]", "2 <</Type/Page/Text@4>>;\n", "3 <</Type/Page>>;\n", "4 <</Type/Text>>~2:ab;\n")
	wantRoot(t, "/Title()", "/Title()")
	wantRoot(t, "/Title( a\n\\(\\)\\\\;\x00\xff)", "/Title( a\n\\(\\)\\\\;\x00\xff)")
	wantRoot(t, " /A 1 /Title (b) /Kids [ ] /B 2 ", "/Kids[]/Title(b)")
}

// wantPage: likewise of a page, which is the only kid of a root.
func wantPage(t *testing.T, keys, kept string, behind ...string) {
	t.Helper()
	file := fileOf(1, "1<</Type/Root/Kids[@2]>>;", "2<</Type/Page"+keys+">>;", "3<</Type/Page>>;", "4<</Type/Text>>~2:ab;", "5<</Type/Root>>;", "", "7<</Type/Text>>;")
	objects := []string{"1 <</Type/Root/Kids[@2]>>;\n", "2 <</Type/Page" + kept + ">>;\n"}
	wantWritten(t, "a page", file, append(objects, behind...)...)
}

func TestKeepPage(t *testing.T) {
	page, text := "3 <</Type/Page>>;\n", "3 <</Type/Text>>~2:ab;\n"
	wantPage(t, "", "")
	for _, keys := range []string{
		"/Box[]", "/Box[1 2 3]", "/Box[1 2 3 4 5]", "/Box[1 2 3 null]", "/Box[/A 2 3 4]", "/Box[1 2[3]4]", "/Box[@1@2@3@4]", "/Box[1 2 3 4 null]", "/Box 1", "/Box(a)", "/Box<<>>", "/box[1 2 3 4]",
		"/Next 3", "/Next[@3]", "/Next@1", "/Next@4", "/Next@5", "/Next@6", "/Next@7", "/Next@8", "/Next@0", "/Next@9999", "/Next null", "/next@3", "/Next/Page",
		"/Text 4", "/Text[@4]", "/Text@1", "/Text@2", "/Text@3", "/Text@5", "/Text@6", "/Text@7", "/Text@8", "/Text(a)", "/text@4",
		"/Kids[@3]", "/Title(a)", "/A@3", "/F/Z",
	} {
		wantPage(t, keys, "")
	}
	wantPage(t, "/Box[1 2 3 4]", "/Box[1 2 3 4]")
	wantPage(t, "/Box [ -1-2\n3.50 004 ] ", "/Box[-1 -2 3.5 4]")
	wantPage(t, "/Next@3", "/Next@3", page)
	wantPage(t, "/Next@2", "/Next@2")
	wantPage(t, "/Next@0003", "/Next@3", page)
	wantPage(t, "/Text@4", "/Text@3", text)
	wantPage(t, "/Text@4/Next@3/Box[0 0 0 0]/A 1", "/Box[0 0 0 0]/Next@3/Text@4", page, "4 <</Type/Text>>~2:ab;\n")
}

func TestKeepText(t *testing.T) {
	for _, c := range []struct{ object, kept string }{
		{"3<</Type/Text>>~0:;", "3 <</Type/Text>>~0:;\n"},
		{"3 << /A 1 /Type /Text /Next@2 /Title(x) /Text@3 >> ~ 4:;\n; ;", "3 <</Type/Text>>~4:;\n; ;\n"},
		{"3<</Type/Text/F/Y>>~2:ab;", "3 <</Type/Text>>~2:ab;\n"},
		{packedText(3, nothing), "3 <</Type/Text>>~0:;\n"},
		{packedText(3, deflate(t, 9, "abcabc")), "3 <</Type/Text>>~6:abcabc;\n"},
		{packedText(3, deflate(t, 9, strings.Repeat("a", 2000))), "3 <</Type/Text>>~2000:" + strings.Repeat("a", 2000) + ";\n"},
	} {
		file := fileOf(1, "1<</Type/Root/Kids[@2]>>;", "2<</Type/Page/Text@3>>;", c.object)
		wantWritten(t, "a text", file, "1 <</Type/Root/Kids[@2]>>;\n", "2 <</Type/Page/Text@3>>;\n", c.kept)
	}
}

// TestReached: new numbers go by the order in which objects are reached: breadth ahead of depth.
func TestReached(t *testing.T) {
	file := head + "junk" + "9<</Type/Text>>~1:9;" + "\n"
	places := make([]int, 10)
	places[8] = 9
	for i, object := range []string{
		"", "2<</Type/Page/Next@5/Text@9>>;", "3<</Type/Page/Text@8/Next@2>>;", "4<</Type/Root/Kids[@3@7]>>;", "5<</Type/Page/Next@3>>;", "6<</Type/Page/Next@2/Text@9>>;", "7<</Type/Page/Text@8/Next@7>>;", "8<</Type/Text>>~1:8;", "", "10<</Type/Page>>;",
	} {
		if object != "" {
			places[i] = len(file)
			file += object + " nobody's "
		}
	}
	wantWritten(t, "a net of pages", file+tableOf(len(file), 4, places...),
		"1 <</Type/Root/Kids[@2 @3]>>;\n", "2 <</Type/Page/Next@4/Text@5>>;\n", "3 <</Type/Page/Next@3/Text@5>>;\n", "4 <</Type/Page/Next@6/Text@7>>;\n", "5 <</Type/Text>>~1:8;\n", "6 <</Type/Page/Next@2>>;\n", "7 <</Type/Text>>~1:9;\n")
}

// TestReachedInPart: a loop over what is reached may end early.
func TestReachedInPart(t *testing.T) {
	d := readDocument(fileOf(1, "1<</Type/Root/Kids[@2@3]>>;", "2<</Type/Page>>;", "3<</Type/Page>>;"), free)
	for range 2 {
		seen := 0
		for number := range d.reached() {
			seen++
			if number == 2 {
				break
			}
		}
		if seen != 2 {
			t.Errorf("%d objects up to the second one", seen)
		}
	}
}

func TestNumbers(t *testing.T) {
	for _, c := range []struct{ text, want string }{
		{"0", "0"}, {"-0", "0"}, {"000000", "0"}, {"-000000.000", "0"}, {"0.0", "0"}, {"-0.0", "0"}, {"1", "1"}, {"-1", "-1"}, {"001", "1"}, {"-001.100", "-1.1"}, {"1.0", "1"}, {"1.000", "1"}, {"10", "10"}, {"100000", "100000"}, {"0.5", "0.5"}, {"00.50", "0.5"}, {"-0.001", "-0.001"}, {"0.010", "0.01"}, {"999999.999", "999999.999"}, {"-999999.999", "-999999.999"}, {"999999", "999999"}, {"123456.789", "123456.789"}, {"0.1", "0.1"}, {"0.3", "0.3"}, {"100000.001", "100000.001"}, {"900000.070", "900000.07"},
	} {
		wantPage(t, "/Box["+c.text+" 1 1 1]", "/Box["+c.want+" 1 1 1]")
	}
}

// TestEachNumber: what is written is made of digits here, without a float.
func TestEachNumber(t *testing.T) {
	for thousandths := 0; thousandths < 1000000000; thousandths += 1 + thousandths/2999 {
		whole, behind := strconv.Itoa(thousandths/1000), strconv.Itoa(1000 + thousandths%1000)[1:]
		want := whole
		if shown := strings.TrimRight(behind, "0"); shown != "" {
			want += "." + shown
		}
		text := "-" + whole + "." + behind + ";"
		p := parser{scanner: scanner{file: text, end: len(text), charge: free}}
		got := numberText(p.number())
		if thousandths > 0 {
			want = "-" + want
		}
		if got != want {
			t.Errorf("-%s.%s: %s, want %s", whole, behind, got, want)
		}
	}
}

// bigFile is a file of which so much is to be written: most of it is packed, so that the file itself is short.
func bigFile(size int) string {
	file, _ := bigFileWritten(size)
	return file
}

// bigFileWritten also tells what is to be written.
func bigFileWritten(size int) (file, written string) {
	full := strings.Repeat("\x00", 2000)
	packed := new(packer).head(1, 1).fixedText("\x00")
	for range 7 {
		packed.fixedCopy(258, 1)
	}
	packed.fixedCopy(193, 1).fixedEnd()
	objects := func(title string, text func(int) string) []string {
		list := []string{"1 <</Type/Root/Kids[@2 @3 @4 @5]/Title(" + title + ")>>;\n"}
		for page := 2; page <= 5; page++ {
			list = append(list, strconv.Itoa(page)+" <</Type/Page/Text@"+strconv.Itoa(page+4)+">>;\n")
		}
		for number := 6; number <= 9; number++ {
			list = append(list, text(number))
		}
		return list
	}
	plain := func(number int) string {
		return strconv.Itoa(number) + " <</Type/Text>>~2000:" + full + ";\n"
	}
	short := func(number int) string { return packedText(number, packed.String()) }
	// The first 500 bytes of a title already make what stands behind it stand at places of as many digits.
	title := strings.Repeat("t", size-len(fileOf(1, objects(strings.Repeat("t", 500), plain)...))+500)
	return fileOf(1, objects(title, short)...), fileOf(1, objects(title, plain)...)
}

func TestCheckBig(t *testing.T) {
	for _, size := range []int{8998, 8999, 9000} {
		file, written := bigFileWritten(size)
		if len(written) != size {
			t.Fatal(len(written), size)
		}
		wantCheck(t, strconv.Itoa(size)+" bytes to be written", file, OK, 0)
		wantCheck(t, strconv.Itoa(size)+" bytes, as they are written", written, OK, 0)
		wantWhole(t, strconv.Itoa(size)+" bytes", file, written)
	}
	for _, size := range []int{9001, 9002, 9500} {
		wantCheck(t, strconv.Itoa(size)+" bytes to be written", bigFile(size), ErrBig, 0)
	}
}

// TestCheckBigByBlanks: written, the elements of an array have blanks between.
func TestCheckBigByBlanks(t *testing.T) {
	file := func(kids, blank string, title int) string {
		return fileOf(1, "1 <</Type/Root/Kids["+kids+strings.Repeat(blank+"@2", 2899)+"]/Title("+strings.Repeat("t", title)+")>>;\n", "2 <</Type/Page>>;\n")
	}
	title := 9000 - len(file("@2", " ", 0))
	wantCheck(t, "9000 bytes", file("@2", "", title), OK, 0)
	wantCheck(t, "9001 bytes", file("@2", "", title+1), ErrBig, 0)
	wantCheck(t, "an element more", file("@2@2", "", title), ErrBig, 0)
	wantCheck(t, "an element more that is dropped", file("@2@1@0 null", "", title), OK, 0)
}

// TestCheckBigOfWhatIsReached: only what is written counts, and it counts once.
func TestCheckBigOfWhatIsReached(t *testing.T) {
	long := deflate(t, 9, strings.Repeat("x", 2000))
	objects := []string{"1<</Type/Root/Kids[@2@2@2]/A(" + strings.Repeat("x", 5000) + ")>>;", "2<</Type/Page/Text@3/Next@4>>;", packedText(3, long), "4<</Type/Page/Text@3/Next@2>>;"}
	for number := 5; number <= 30; number++ {
		objects = append(objects, packedText(number, long))
	}
	wantCheck(t, "much that is not reached", fileOf(1, objects...), OK, 0)
}
