package rinse

import (
	"strings"
	"testing"
)

func TestCheckOverlap(t *testing.T) {
	stream := head + plainRoot + "2<<>>~6:3null;;"
	inStream := second + len("2<<>>~6:")
	wantCheck(t, "an object in a stream", stream+tableOf(len(stream), 1, 5, second, inStream), ErrOverlap, 3)
	wantCheck(t, "it is not in the table", stream+tableOf(len(stream), 1, 5, second, 0), OK, 0)
	wantCheck(t, "the other one is not in the table", stream+tableOf(len(stream), 1, 5, 0, inStream), OK, 0)

	turned := head + plainRoot + "3(2null;);"
	wantCheck(t, "the lower number within the higher one", turned+tableOf(len(turned), 1, 5, second+2, second), ErrOverlap, 3)

	last := head + plainRoot + "2(3true;"
	wantCheck(t, "one that would go on", last+tableOf(len(last), 1, 5, second, second+2), ErrObject, len(last))

	crossed := head + plainRoot + "2<<>>~8:3<<>>~4:;abc;"
	first := second + len("2<<>>~8:")
	wantCheck(t, "one begins within the other, and ends behind it", crossed+tableOf(len(crossed), 1, 5, second, first), ErrOverlap, 3)

	beside := head + "2null;" + plainRoot + "3null;"
	wantCheck(t, "objects side by side", beside+tableOf(len(beside), 1, 11, 5, 28), OK, 0)

	gap := head + plainRoot + "2(4null;);"
	wantCheck(t, "numbers between are not there", gap+tableOf(len(gap), 1, 5, second, 0, second+2), ErrOverlap, 4)
}

// TestCheckOverlapOfDigits: one number is the end of the other.
func TestCheckOverlapOfDigits(t *testing.T) {
	file := head + plainRoot + "12null;"
	places := make([]int, 12)
	places[0], places[1], places[11] = 5, second+1, second
	wantCheck(t, "12 and 2", file+tableOf(len(file), 1, places...), ErrOverlap, 12)
}

// TestCheckOneByteInCommon: the last byte of one is the first of the other.
func TestCheckOneByteInCommon(t *testing.T) {
	d := &document{objects: []object{{}, {place: 5, end: 10}, {place: 9, end: 12}}, charge: free}
	if why := answer(d.refuseOverlaps); why != (refusal{ErrOverlap, 2}) {
		t.Errorf("P2: a byte in common: %v", why)
	}
	d.objects[2].place = 10
	if why := answer(d.refuseOverlaps); why != (refusal{}) {
		t.Errorf("P2: no byte in common: %v", why)
	}
}

// TestCheckFirstOverlap: the first that has a byte in common with one of a lower number, though others stand ahead of it.
func TestCheckFirstOverlap(t *testing.T) {
	file := head + "5(4null;);3(2null;);1<</Type/Root>>;"
	places := []int{5 + 20, 5 + 12, 5 + 10, 5 + 2, 5}
	wantCheck(t, "two overlaps", file+tableOf(len(file), 1, places...), ErrOverlap, 3)
	places[2] = 0
	wantCheck(t, "one of them", file+tableOf(len(file), 1, places...), ErrOverlap, 5)
}

// TestCheckOnePlace: as a number is its object's own, one of two at one place is no object.
func TestCheckOnePlace(t *testing.T) {
	file := head + plainRoot + "2null;"
	wantCheck(t, "2 and 3", file+tableOf(len(file), 1, 5, second, second), ErrObject, second)
	wantCheck(t, "1 and 2", file+tableOf(len(file), 1, 5, 5), ErrObject, 5)
	places := make([]int, 12)
	places[0], places[11] = 5, 5
	wantCheck(t, "1 and 12", file+tableOf(len(file), 1, places...), ErrObject, 6)
}

const (
	nothing   = "\x03\x00"  // packed
	noPacking = "\x03\x00x" // a byte behind it
)

func TestCheckPacked(t *testing.T) {
	for _, object := range []string{
		packedText(2, nothing),
		packedText(2, "\x03\xfc"),
		packedText(2, deflate(t, 9, strings.Repeat("x", 2000))),
		packedText(2, new(packer).stored(1, textOf(2000)).String()),
		"2<</F/Z/Type/Text>>~2:\x03\x00;",
	} {
		wantSecond(t, object, OK, 0)
	}
	for _, packed := range []string{"", "x", noPacking, "\x03", new(packer).stored(1, textOf(2001)).String(), deflate(t, 9, strings.Repeat("x", 2001)), deflate(t, 9, strings.Repeat("x", 100000))} {
		wantCheck(t, "no packing", fileOf(1, plainRoot, packedText(2, packed)), ErrPacked, 2)
	}
}

// TestCheckNotPacked: what is no packing may stand where no stream of the type Text is packed.
func TestCheckNotPacked(t *testing.T) {
	for _, dictionary := range []string{
		"<</Type/Page/F/Z>>", "<</Type/Root/F/Z>>", "<</F/Z>>", "<</Type(Text)/F/Z>>", "<</Type/Texts/F/Z>>", "<</Type/text/F/Z>>", "<</Type[/Text]/F/Z>>", "<</A<</Type/Text/F/Z>>>>", "<</Typ/Text/F/Z>>",
		"<</Type/Text>>", "<</Type/Text/F/Y>>", "<</Type/Text/F/ZZ>>", "<</Type/Text/F/z>>", "<</Type/Text/F(Z)>>", "<</Type/Text/F[/Z]>>", "<</Type/Text/f/Z>>", "<</Type/Text/FF/Z>>", "<</Type/Text/A<</F/Z>>>>", "<</Type/Text/F@1>>",
	} {
		wantSecond(t, "2"+dictionary+"~3:"+noPacking+";", OK, 0)
	}
	wantSecond(t, "2<</Type/Text/F/Z>>;", OK, 0)
	wantSecond(t, "2[<</Type/Text/F/Z>>];", OK, 0)
	wantSecond(t, "2<</Type/Text>>~2500:"+textOf(2500)+";", OK, 0)
}

// TestCheckFirstPacked: also of objects that are not reached, and ahead of what is wrong with the root.
func TestCheckFirstPacked(t *testing.T) {
	wantCheck(t, "the first of two", fileOf(1, plainRoot, packedText(2, nothing), packedText(3, noPacking), packedText(4, noPacking)), ErrPacked, 3)
	file := head + plainRoot + packedText(3, noPacking)
	at := len(file)
	file += packedText(2, noPacking)
	wantCheck(t, "the first by its number", file+tableOf(len(file), 1, 5, at, second), ErrPacked, 2)
	wantCheck(t, "the root itself", fileOf(1, packedText(1, noPacking)), ErrPacked, 1)
}

func TestCheckRoot(t *testing.T) {
	for _, value := range []string{"<</Type/Root>>", " << /A 1 /Type\n/Root >>\n", "<</Kids 1/Title 2/Type/Root/F/Z>>"} {
		wantCheck(t, "a root", fileOf(1, "1"+value+";"), OK, 0)
		wantCheck(t, "a root of another number", fileOf(3, "", "", "3"+value+";"), OK, 0)
	}
	for _, value := range []string{
		"<</Type/Page>>", "<</Type/Text>>~0:", "<</Type/Root>>~0:", "<</Type/Text>>", "<<>>", "<</Type/root>>", "<</Type/Roots>>", "<</type/Root>>", "<</Type(Root)>>", "<</Type[/Root]>>", "<</Type<</Type/Root>>>>", "<</Type null>>", "<</Type@2>>", "<</A/Type/B/Root>>",
		" null", " 1", "/Root", "(Root)", "[/Type/Root]", "[<</Type/Root>>]", "@2",
	} {
		wantCheck(t, "no root", fileOf(1, "1"+value+";", "2<</Type/Root>>;"), ErrRoot, 0)
	}
}

// TestCheckOrder: where several errors apply, the one named first is told.
func TestCheckOrder(t *testing.T) {
	big := bigFile(9001)
	wantCheck(t, "too much", big, ErrBig, 0)
	noRoot := strings.Replace(big, "/Root", "/Toor", 1)
	wantCheck(t, "no root either", noRoot, ErrRoot, 0)
	file := head + packedText(2, noPacking)
	at := len(file)
	file += "1(3null;);"
	wantCheck(t, "no root, no packing", file+tableOf(len(file), 1, at, 5, 0), ErrPacked, 2)
	file += "3(2<</Type/Text/F/Z>>~0:;);1<</Type/Text/F/Z>>~0:;"
	wantCheck(t, "no root, no packing, an overlap", file+tableOf(len(file), 1, at+37, at+12, at+10), ErrOverlap, 3)
	wantCheck(t, "an object that is none behind an overlap", file+tableOf(len(file), 1, at+37, at+12, at+10, 5), ErrObject, 5)
	wantCheck(t, "and no table", file+tableOf(len(file)+1, 1, at+37, at+12, at+10, 5), ErrTable, 0)
	wantCheck(t, "and no head", "x"+file+tableOf(len(file), 1, at+37, at+12, at+10, 5), ErrHead, 0)
	wantCheck(t, "and too long", "x"+file+strings.Repeat(" ", 9000), ErrLong, 0)
}
