package rinse

import (
	"strconv"
	"strings"
	"testing"
)

// rightObjects are objects of the number 2, by their kinds of values; several kinds in one.
func rightObjects() []string {
	return []string{
		"2null;", "2true;", "2false;", "2 null;", "2\nnull\n;", "2 \n null \n ;",
		"2 0;", "2-1;", "2 -0;", "2 123456;", "2 999999.999;", "2 000000.000;", "2-00.125;", "2 1.5 ;", "2-123456.123;",
		"2();", "2(a);", "2 (a b\nc) ;", "2(\\(\\)\\\\);", "2(;~<<>>[]@/);", "2(\x00\xff\t\r);", "2(xref 1);",
		"2/A;", "2 /Abcdefgh ;", "2/zZ;",
		"2@0;", "2@1;", "2 @9999 ;", "2@0001;",
		"2[];", "2[ \n];", "2[null];", "2[1 2];", "2 [ 1\n2 ] ;", "2[1-2truefalse(a)/A/B1.2345];", "2[@12345];", "2[1234567];", "2[nullnull];", "2[/Abcdefghnull];", "2[1.234567];", "2[123456.5];", "2[1.5-1.5];", "2[(a)(b)];", "2[[][]];", "2[<<>><<>>];", "2[/A/B];", "2[@1@2];", "2[1/A@2(b)];",
		"2<<>>;", "2<< >>;", "2<<\n/A\n1\n>>;", "2<</A 1/B[2]/C(x)/D/E/F@3>>;", "2<</A/B>>;", "2<</A<</A<<>>>>>>;", "2<</A null/B true/a false>>;", "2<</A()/B()>>;", "2<</A-1>>;",
		"2<<>>~0:;", "2<<>>~1:x;", "2<<>> ~ 3:;;; ;", "2<<>>\n~\n10:0123456789\n;", "2<</A 1>>~2: \n;", "2<<>>~4:>>~0;", "2<<>>~5:\x00\xff(((;",
		"2[ null true false 1 -1 0.5 -00.125 999999.999 (a) () (\\(\\)\\\\) (\n) /A /Abcdefgh @0 @9 @1234 [] <<>> ];",
	}
}

func TestCheckRightObjects(t *testing.T) {
	for _, object := range rightObjects() {
		wantSecond(t, object, OK, 0)
	}
}

// TestCheckCutOff: an object that is cut off anywhere would go on into the table.
func TestCheckCutOff(t *testing.T) {
	for _, object := range rightObjects() {
		for n := 1; n < len(object); n++ {
			wantSecond(t, object[:n], ErrObject, n)
		}
	}
}

// TestCheckTabs: a byte that may stand in strings and streams alone is told wherever else it stands.
func TestCheckTabs(t *testing.T) {
	for _, object := range rightObjects() {
		if strings.ContainsAny(object, "(~") {
			continue
		}
		for n := range len(object) {
			wantSecond(t, object[:n]+"\t"+object[n:], ErrObject, n)
			wantSecond(t, object[:n]+"\x00"+object[n:], ErrObject, n)
		}
	}
}

// wrong is an object, and the first byte that is wrong, counted from its first one.
type wrong struct {
	object string
	place  int
}

func TestCheckWrongNumbers(t *testing.T) {
	for _, c := range []wrong{
		{"3null;", 0}, {"1null;", 0}, {"0null;", 0}, {"02null;", 0}, {"22null;", 1}, {"20null;", 1}, {"2222222null;", 1}, {"25;", 1},
		{" 2null;", 0}, {"\n2null;", 0}, {"null;", 0}, {";", 0}, {"-2null;", 0}, {"@2null;", 0}, {"2.5;", 1}, {"x", 0},
	} {
		wantSecond(t, c.object, ErrObject, c.place)
	}
	objects := make([]string, 30)
	objects[0] = plainRoot
	for _, c := range []struct {
		object string
		errno  Errno
		place  int
	}{{"12null;", OK, 0}, {"12 5;", OK, 0}, {"1null;", ErrObject, 1}, {"1 2null;", ErrObject, 1}, {"13null;", ErrObject, 1}, {"2null;", ErrObject, 0}, {"21null;", ErrObject, 0}, {"012null;", ErrObject, 0}, {"123null;", ErrObject, 2}, {"1", ErrObject, 1}, {"12", ErrObject, 2}} {
		objects[11] = c.object
		place := c.place
		if c.errno != OK {
			place += second
		}
		wantCheck(t, "object 12", fileOf(1, objects...), c.errno, place)
	}
}

func TestCheckWrongValues(t *testing.T) {
	for _, c := range []wrong{
		{"2;", 1}, {"2 ;", 2}, {"2x;", 1}, {"2.5;", 1}, {"2]", 1}, {"2>>;", 1}, {"2)", 1}, {"2~0:;", 1}, {"2:;", 1}, {"2\\;", 1}, {"2\tnull;", 1}, {"2\rnull;", 1}, {"2\x00null;", 1}, {"2\xa0null;", 1},
		{"2nul;", 4}, {"2nope;", 2}, {"2nulL;", 4}, {"2Null;", 1}, {"2nullx;", 5}, {"2nulll;", 5}, {"2n ull;", 2}, {"2tru;", 4}, {"2trust;", 4}, {"2fals;", 5}, {"2falsE;", 5},
		{"2null null;", 6}, {"2nullnull;", 5}, {"2null,;", 5}, {"2null];", 5}, {"2null>>;", 5}, {"2null\t;", 5},
		{"2 -;", 3}, {"2--1;", 2}, {"2 - 1;", 3}, {"2+1;", 1}, {"2 1.;", 4}, {"2 1. 5;", 4}, {"2 1 .5;", 4}, {"2 .5;", 2}, {"2-.5;", 2}, {"2 1.-5;", 4}, {"2 1..5;", 4}, {"2 1.5.5;", 5}, {"2 1e5;", 3}, {"2 1234567;", 8}, {"2 1.2345;", 7}, {"2 1 2;", 4}, {"2 0x1;", 3}, {"2 1,5;", 3}, {"2-1-1;", 3},
		{"2(a(b);", 3}, {"2(a(b));", 3}, {"2(a;", 4}, {"2(\\n);", 3}, {"2(\\;", 3}, {"2(\\ ();", 3}, {"2(\\\\\\);", 7}, {"2(a)b);", 4}, {"2(a)(b);", 4}, {"2(\\\n);", 3},
		{"2 /;", 3}, {"2/ A;", 2}, {"2//A;", 2}, {"2/1;", 2}, {"2/A1;", 3}, {"2/A_;", 3}, {"2/Abcdefghi;", 10}, {"2/A/B;", 3}, {"2/A@1;", 3}, {"2/\xe4;", 2}, {"2/A[;", 3}, {"2/[;", 2}, {"2/`;", 2}, {"2/{;", 2}, {"2/@;", 2},
		{"2@;", 2}, {"2@ 1;", 2}, {"2@-1;", 2}, {"2@x;", 2}, {"2@12345;", 6}, {"2@1@2;", 3}, {"2@1.5;", 3}, {"2@1 2;", 4}, {"2@/;", 2}, {"2@:;", 2},
		{"2[1;", 3}, {"2[1;]", 3}, {"2[;", 2}, {"2[1,2];", 3}, {"2[1]];", 4}, {"2[1)];", 3}, {"2[1>>;", 3}, {"2[1~0:];", 3}, {"2[1.];", 4}, {"2[nul];", 5}, {"2[/Abcdefghi];", 11}, {"2[@];", 3}, {"2[-];", 3}, {"2[[];", 4}, {"2[<<];", 4}, {"2[] [];", 4}, {"2[]/A;", 3},
	} {
		wantSecond(t, c.object, ErrObject, c.place)
	}
}

func TestCheckWrongDictionaries(t *testing.T) {
	for _, c := range []wrong{
		{"2<1>;", 2}, {"2<;", 2}, {"2< <>>;", 2}, {"2<>;", 2}, {"2<<;", 3}, {"2<<>;", 4}, {"2<<> >;", 4}, {"2<</A 1> >;", 8}, {"2<</A 1>;", 8}, {"2<</A 1;", 7}, {"2<</A 1];", 7},
		{"2<</A>>;", 5}, {"2<</A 1/B>>;", 9}, {"2<</A;", 5}, {"2<<1 2>>;", 3}, {"2<<(A)1>>;", 3}, {"2<<null 1>>;", 3}, {"2<<@1 1>>;", 3}, {"2<<[]1>>;", 3}, {"2<<<<>>1>>;", 3}, {"2<</A 1 2>>;", 8}, {"2<<A 1>>;", 3}, {"2<</ 1>>;", 4}, {"2<</Abcdefghi 1>>;", 12}, {"2<</A 1~0:>>;", 7}, {"2<<;>>;", 3}, {"2<</A 1,/B 1>>;", 7}, {"2<<>>>>;", 5}, {"2<<>><<>>;", 5}, {"2<<>>1;", 5},
	} {
		wantSecond(t, c.object, ErrObject, c.place)
	}
}

func TestCheckWrongStreams(t *testing.T) {
	for _, c := range []wrong{
		{"2[]~0:;", 3}, {"2null~0:;", 5}, {"2 1~0:;", 3}, {"2()~0:;", 3}, {"2/A~0:;", 3}, {"2@1~0:;", 3}, {"2[<<>>~0:];", 6}, {"2<</A<<>>~0:>>;", 9},
		{"2<<>>~:;", 6}, {"2<<>>~x:;", 6}, {"2<<>>~-1:;", 6}, {"2<<>>~\t1:x;", 6}, {"2<<>>~3 :abc;", 7}, {"2<<>>~3\n:abc;", 7}, {"2<<>>~3;", 7}, {"2<<>>~00:;", 7}, {"2<<>>~01:x;", 7}, {"2<<>>~12345:;", 10}, {"2<<>>~1.5:x;", 7},
		{"2<<>>~0: ~0:;", 9}, {"2<<>>~0:~0:;", 8}, {"2<<>>~1:xx;", 9}, {"2<<>>~0:x;", 8}, {"2<<>>~0:\t;", 8},
		{"2<<>>~3:ab;", 11}, {"2<<>>~2:ab", 10}, {"2<<>>~9:ab;", 11}, {"2<<>>~9999:ab;", 14}, {"2<<>>~2:a;", 10},
	} {
		wantSecond(t, c.object, ErrObject, c.place)
	}
}

// TestCheckWordsOfTheTable: nothing of the table is an object's, though it could go on with it.
func TestCheckWordsOfTheTable(t *testing.T) {
	wantSecond(t, "2(", ErrObject, 2)
	wantSecond(t, "2<<>>~4:", ErrObject, 8)
	wantSecond(t, "2/A", ErrObject, 3)
	whole := head + plainRoot + "2<<>>~3:xre;"
	wantCheck(t, "the table's letters ahead of it", whole+tableOf(len(whole), 1, 5, second), OK, 0)
}

// TestCheckPlaces: those that are not behind the five bytes and ahead of the table.
func TestCheckPlaces(t *testing.T) {
	file := func(place int) string { return head + plainRoot + "2null;" + tableOf(second+6, 1, len(head), place) }
	at := second + 6
	for _, place := range []int{1, 2, 3, 4, at, at + 1, at + 40, 8999, 9000, 9999} {
		wantCheck(t, "a place elsewhere", file(place), ErrObject, place)
	}
	inHead := head + "<</Type/Root>>;" // with the head's last two bytes it would be an object of the number 1
	wantCheck(t, "an object that begins within the head", inHead+tableOf(len(inHead), 1, 3), ErrObject, 3)
	wantCheck(t, "the first place behind the head", file(5), ErrObject, 5)
	wantCheck(t, "the last place ahead of the table", file(at-1), ErrObject, at-1)
	wantCheck(t, "its own place", file(second), OK, 0)
	wantCheck(t, "a byte ahead of it", file(second-1), ErrObject, second-1)
	wantCheck(t, "a byte behind it", file(second+1), ErrObject, second+1)
}

// TestCheckFirstOfTwo: which of two wrong objects is told: that of the lower number, wherever it stands.
func TestCheckFirstOfTwo(t *testing.T) {
	wrongs := []struct {
		value string
		errno Errno
		place int
	}{{"nul;", ErrObject, 4}, {"[[[[[[[]]]]]]];", ErrNest, 7}, {"<</A 1/A 1>>;", ErrTwice, 7}}
	for _, two := range wrongs {
		for _, three := range wrongs {
			wantCheck(t, "two wrong objects", fileOf(1, plainRoot, "2"+two.value, "3"+three.value), two.errno, second+two.place)
			file := head + plainRoot + "3" + three.value
			at := len(file)
			file += "2" + two.value
			wantCheck(t, "two wrong objects, the lower number behind", file+tableOf(len(file), 1, len(head), at, second), two.errno, at+two.place)
		}
	}
	wantCheck(t, "an object elsewhere behind a wrong one", head+plainRoot+"2nul;"+tableOf(second+5, 1, 5, second, 4), ErrObject, second+4)
	wantCheck(t, "an object elsewhere ahead of a wrong one", head+plainRoot+"3nul;"+tableOf(second+5, 1, 5, 4, second), ErrObject, 4)
}

func TestCheckNest(t *testing.T) {
	for deep := 1; deep <= 100; deep++ {
		arrays := "2" + strings.Repeat("[", deep) + strings.Repeat("]", deep) + ";"
		dictionaries := "2" + strings.Repeat("<</A", deep) + " 1" + strings.Repeat(">>", deep) + ";"
		if deep <= 6 {
			wantSecond(t, arrays, OK, 0)
			wantSecond(t, dictionaries, OK, 0)
			continue
		}
		wantSecond(t, arrays, ErrNest, 7)
		wantSecond(t, dictionaries, ErrNest, 25)
	}
	for _, c := range []wrong{
		{"2[[[[[ <<>> [<<>>] ]]]]];", 13}, {"2[<</A[<</A[<</A[]>>]>>]>>];", 16}, {"2[[[[[[ [][[]] ]]]]]];", 8}, {"2[[[[[[]]]]][[[[[[]]]]]]];", 17}, {"2[[[[[[\n<<\n>>]]]]]];", 8},
	} {
		wantSecond(t, c.object, ErrNest, c.place)
	}
	wantSecond(t, "2[[[[[[]]]]]", ErrObject, 12)
	wantSecond(t, "2[[[[[[]]]][[[[]]]][<<>>]<<>>[[[[]]]]]];", OK, 0)
	wantSecond(t, "2"+strings.Repeat("[", 4000)+strings.Repeat("]", 4000)+";", ErrNest, 7)
	wantSecond(t, "2"+strings.Repeat("[", 8900), ErrObject, 8901)
	wantSecond(t, "2"+strings.Repeat("<</A", 2200), ErrObject, 8801)
}

// TestCheckObjectAheadOfNest: of one object, what is named first is told, though it stands behind.
func TestCheckObjectAheadOfNest(t *testing.T) {
	wantSecond(t, "2[[[[[[[]]]]]] ;", ErrObject, 15)
	wantSecond(t, "2[[[[[[[][]]]]]]][];", ErrObject, 17)
	wantSecond(t, "2[[[[[[<1>]]]]]];", ErrObject, 8)
	wantSecond(t, "2<</A[[[[[[[]]]]]]]/A nul>>;", ErrObject, 25)
	wantSecond(t, "2<</A 1/A nul>>;", ErrObject, 13)
	wantSecond(t, "2<</A 1/A 2>>", ErrObject, 13)
	wantSecond(t, "2[<</A 1/A[[[[[[[]]]]]]]>>];", ErrNest, 14)
	wantSecond(t, "2<</A[[[[[[]]]]]]/A 1>>;", ErrNest, 10)
}

func TestCheckTwice(t *testing.T) {
	for _, c := range []wrong{
		{"2<</A 1/A 2>>;", 7}, {"2<</A 1/A 1>>;", 7}, {"2<</A 1/B 2/A 3>>;", 11}, {"2<</A 1/A 2/A 3>>;", 7}, {"2<</A 1/B 1/B 1/A 1>>;", 11}, {"2<</A 1\n /A 2>>;", 9}, {"2[<</A 1>><</A 1/A 1>>];", 16},
		{"2<</A<</B 1/B 2>>/A 3>>;", 11}, {"2<</A 1/A<</B 1/B 2>>>>;", 7}, {"2<</A[[<</Abcdefgh 1/Abcdefgh 2>>]]>>~0:;", 20}, {"2<</A null/A null>>;", 10},
	} {
		wantSecond(t, c.object, ErrTwice, c.place)
	}
	for _, object := range []string{"2<</A 1/a 2>>;", "2<</A 1/AA 2>>;", "2<</A/A>>;", "2<</A/A/B/A>>;", "2<</A 1/B<</A 2>>>>;", "2<</A<</A<</A 1>>>>>>;", "2[<</A 1>><</A 1>>];", "2<</Abcdefgh 1/Abcdefgi 2>>;"} {
		wantSecond(t, object, OK, 0)
	}
	keys := ""
	for i := range 676 {
		keys += "/" + string(rune('a'+i/26)) + string(rune('a'+i%26)) + " " + strconv.Itoa(i)
	}
	wantSecond(t, "2<<"+keys+">>;", OK, 0)
	wantSecond(t, "2<<"+keys+"/aa 1>>;", ErrTwice, 3+len(keys))
}
