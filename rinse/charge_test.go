package rinse

import (
	"strings"
	"testing"
)

// wantCharged: some work is charged with at least so many steps, and no more than ten times as many.
func wantCharged(t *testing.T, what string, least int, work func(charge func(int))) {
	t.Helper()
	steps := 0
	work(func(n int) { steps += n })
	if steps < least || steps > 10*least {
		t.Errorf("%s: %d steps, want at least %d", what, steps, least)
	}
}

// TestChargedReading: each byte that is looked at.
func TestChargedReading(t *testing.T) {
	file := head + strings.Repeat("x", 5000)
	file += tableOf(len(file), 1, 0)
	wantCharged(t, "finding the table", len(file), func(charge func(int)) { readTable(file, charge) })
	wantCharged(t, "looking for a table", 5000, func(charge func(int)) {
		answer(func() { readTable(strings.Repeat("x", 5000), charge) })
	})
	for _, value := range []string{"(" + strings.Repeat("x", 3000) + ")", "(" + strings.Repeat("\\)", 1500) + ")", "[" + strings.Repeat("@1234", 600) + "]", "[" + strings.Repeat("null", 600) + "]", "[" + strings.Repeat("-123456.789", 300) + "]", strings.Repeat(" ", 3000) + "null", "[" + strings.Repeat("/Abcdefgh", 300) + "]"} {
		object := head + "1" + value + ";"
		wantCharged(t, "an object "+value[:5], len(value), func(charge func(int)) {
			readObject(object, table{len(object), []int{5}, 1}, 1, charge)
		})
	}
}

// TestChargedUnpacking: each bit, each byte that comes out, and each length of a code that is made.
func TestChargedUnpacking(t *testing.T) {
	unpacking := func(packed string) func(func(int)) {
		return func(charge func(int)) { unpack(packed, charge, refusal{errno: ErrPacked}) }
	}
	stored := new(packer).stored(1, textOf(1000)).String()
	wantCharged(t, "a stored block", 8*len(stored)+1000, unpacking(stored))
	wantCharged(t, "a block without signs", 10+288+32, unpacking(nothing))
	copies := new(packer).head(1, 1).fixedText("x")
	for range 7 {
		copies.fixedCopy(258, 1)
	}
	wantCharged(t, "copies", 1+7*258+288+32, unpacking(copies.fixedEnd().String()))
	own := new(packer).own(1, aAndEnd(), lengthsOf(30)).code(1, 1).String()
	wantCharged(t, "a block with codes of its own", 19+257+30, unpacking(own))
}

// documentOf is one whose charges are counted from here on.
func documentOf(file string, charge func(int)) *document {
	d := readDocument(file, free)
	d.charge = charge
	return d
}

// TestChargedKeeping: each pair of objects, each reference, and each byte that is written.
func TestChargedKeeping(t *testing.T) {
	objects := []string{plainRoot}
	for range 29 {
		objects = append(objects, "")
	}
	wantCharged(t, "overlaps", 30*29/2, func(charge func(int)) {
		documentOf(fileOf(1, objects...), charge).refuseOverlaps()
	})
	reach := func(file string) func(func(int)) {
		return func(charge func(int)) {
			for range documentOf(file, charge).reached() {
			}
		}
	}
	wantCharged(t, "kids that are dropped", 900, reach(fileOf(1, "1<</Type/Root/Kids["+strings.Repeat("@1", 900)+"]>>;")))
	wantCharged(t, "kids that are kept", 2*900, reach(fileOf(1, "1<</Type/Root/Kids["+strings.Repeat("@2", 900)+"]>>;", "2<</Type/Page>>;")))
	file, written := bigFileWritten(9000)
	wantCharged(t, "writing", len(written), func(charge func(int)) { write(documentOf(file, charge)) })
}
