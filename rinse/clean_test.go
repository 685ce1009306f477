package rinse

import (
	"strings"
	"testing"
)

// TestClean: true of what is written, false of all that is another file of the same things (P6).
func TestClean(t *testing.T) {
	const page = "2 <</Type/Page/Box[1 0 2.5 -4]/Next@2/Text@3>>;\n"
	const text = "3 <</Type/Text>>~1:a;\n"
	root := func(keys string) string { return "1 <</Type/Root" + keys + ">>;\n" }
	const keys = "/Kids[@2 @2]/Title(a)"
	want := fileOf(1, root(keys), page, text)
	wantWhole(t, "as it is written", want, want)

	box := func(numbers string) string { return strings.Replace(page, "1 0 2.5 -4", numbers, 1) }
	for _, file := range []string{
		fileOf(1, "1<</Type/Root"+keys+">>;\n", page, text),
		fileOf(1, "1\n<</Type/Root"+keys+">>;\n", page, text),
		fileOf(1, "1 <</Type/Root"+keys+">>;", page, text),
		fileOf(1, "1 <</Type/Root"+keys+">>; ", page, text),
		fileOf(1, "1 <</Type/Root"+keys+">> ;\n", page, text),
		fileOf(1, "1 << /Type/Root"+keys+">>;\n", page, text),
		fileOf(1, "1 <<"+keys+"/Type/Root>>;\n", page, text),
		fileOf(1, root("/Title(a)/Kids[@2 @2]"), page, text),
		fileOf(1, root(keys+"/A 1"), page, text),
		fileOf(1, root("/Kids[@2@2]/Title(a)"), page, text),
		fileOf(1, root("/Kids[@2\n@2]/Title(a)"), page, text),
		fileOf(1, root("/Kids[ @2 @2]/Title(a)"), page, text),
		fileOf(1, root("/Kids[@2 @02]/Title(a)"), page, text),
		fileOf(1, root("/Kids[@2 @2 @1]/Title(a)"), page, text),
		fileOf(1, root(keys), page, text+"x"),
		fileOf(1, root(keys), page, text, "4 null;\n"),
		fileOf(1, root(keys), page, text, ""),
		fileOf(1, root(keys), page, "3 <</Type/Text/F/A>>~1:a;\n"),
		fileOf(1, root(keys), page, packedText(3, deflate(t, 9, "a"))),
	} {
		wantNotAsWritten(t, file, want)
	}
	for _, numbers := range []string{"01 0 2.5 -4", "1.0 0 2.5 -4", "1 -0 2.5 -4", "1 00 2.5 -4", "1 0.0 2.5 -4", "1 0 2.50 -4", "1 0 02.5 -4", "1 0 2.5 -4.000", "1 0 2.5-4"} {
		wantNotAsWritten(t, fileOf(1, root(keys), box(numbers), text), want)
	}
}

// wantNotAsWritten: a file is right, but what is written of it is another.
func wantNotAsWritten(t *testing.T, file, want string) {
	t.Helper()
	if file == want {
		t.Fatalf("no other file: %q", file)
	}
	wantWhole(t, "another file", file, want)
}

// TestCleanOrder: objects that stand in another order, or have other numbers.
func TestCleanOrder(t *testing.T) {
	const root, page, other = "1 <</Type/Root/Kids[@2 @3]>>;\n", "2 <</Type/Page/Box[1 1 1 1]>>;\n", "3 <</Type/Page>>;\n"
	want := fileOf(1, root, page, other)
	wantWhole(t, "in order", want, want)
	turned := head + root + other + page
	wantWhole(t, "others in the file", turned+tableOf(len(turned), 1, len(head), len(head)+len(root)+len(other), len(head)+len(root)), want)
	apart := head + " " + root + page + other
	wantWhole(t, "a byte that is nobody's", apart+tableOf(len(apart), 1, len(head)+1, len(head)+1+len(root), len(head)+1+len(root)+len(page)), want)
	wantWhole(t, "others in the table", fileOf(1, "1 <</Type/Root/Kids[@3 @2]>>;\n", "2 <</Type/Page>>;\n", "3 <</Type/Page/Box[1 1 1 1]>>;\n"), want)
	wantWhole(t, "another root", fileOf(2, "1 <</Type/Page/Box[1 1 1 1]>>;\n", "2 <</Type/Root/Kids[@1 @3]>>;\n", "3 <</Type/Page>>;\n"), want)
	wantWhole(t, "a number that is left out", fileOf(1, "1 <</Type/Root/Kids[@2 @4]>>;\n", page, "", "4 <</Type/Page>>;\n"), want)
}

// TestCleanOfWrongFiles: also of what would be the same but for an error.
func TestCleanOfWrongFiles(t *testing.T) {
	for errno, file := range wrongFiles() {
		if Clean(file) {
			t.Errorf("P6: a file with the error %d is clean", errno)
		}
	}
	_, longest := bigFileWritten(9000)
	wantWhole(t, "the longest", longest, longest)
	written := writtenOfSome()
	for _, file := range append(oddStrings(), written+"\n", written+" ", "\n"+written, written[:len(written)-1], written+written) {
		if Clean(file) {
			t.Errorf("P6: %.300q is clean", file)
		}
	}
}
