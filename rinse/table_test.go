package rinse

import (
	"regexp"
	"strconv"
	"strings"
	"testing"
)

func TestCheckTable(t *testing.T) {
	body := head + plainRoot
	for _, c := range []struct {
		what, table string
		errno       Errno
	}{
		{"as it must be", "xref 1\n5\nroot 1\nat 22\nend\n", OK},
		{"nothing", "", ErrTable},
		{"a word only", "xref ", ErrTable},
		{"count 0", "xref 0\nroot 1\nat 22\nend\n", ErrTable},
		{"count 0, root 0", "xref 0\nroot 0\nat 22\nend\n", ErrTable},
		{"too few places", "xref 2\n5\nroot 1\nat 22\nend\n", ErrTable},
		{"too many places", "xref 1\n5\n0\nroot 1\nat 22\nend\n", ErrTable},
		{"no count", "xref \n5\nroot 1\nat 22\nend\n", ErrTable},
		{"a count with a zero ahead", "xref 01\n5\nroot 1\nat 22\nend\n", ErrTable},
		{"a place with a zero ahead", "xref 1\n05\nroot 1\nat 22\nend\n", ErrTable},
		{"two zeros for a place", "xref 2\n5\n00\nroot 1\nat 22\nend\n", ErrTable},
		{"no place", "xref 1\n\nroot 1\nat 22\nend\n", ErrTable},
		{"a place with a sign", "xref 1\n+5\nroot 1\nat 22\nend\n", ErrTable},
		{"a place below 0", "xref 2\n5\n-1\nroot 1\nat 22\nend\n", ErrTable},
		{"a place of five digits", "xref 2\n5\n10000\nroot 1\nat 22\nend\n", ErrTable},
		{"a root with a zero ahead", "xref 1\n5\nroot 01\nat 22\nend\n", ErrTable},
		{"root 0", "xref 1\n5\nroot 0\nat 22\nend\n", ErrTable},
		{"a root above the count", "xref 1\n5\nroot 2\nat 22\nend\n", ErrTable},
		{"a root far above the count", "xref 1\n5\nroot 9999\nat 22\nend\n", ErrTable},
		{"no root", "xref 1\n5\nat 22\nend\n", ErrTable},
		{"a place ahead of the table's", "xref 1\n5\nroot 1\nat 21\nend\n", ErrTable},
		{"a place behind the table's", "xref 1\n5\nroot 1\nat 23\nend\n", ErrTable},
		{"the table's place with a zero ahead", "xref 1\n5\nroot 1\nat 022\nend\n", ErrTable},
		{"the table's place is 0", "xref 1\n5\nroot 1\nat 0\nend\n", ErrTable},
		{"no place of the table", "xref 1\n5\nroot 1\nend\n", ErrTable},
		{"no end", "xref 1\n5\nroot 1\nat 22\n", ErrTable},
		{"no newline behind the end", "xref 1\n5\nroot 1\nat 22\nend", ErrTable},
		{"a newline behind it", "xref 1\n5\nroot 1\nat 22\nend\n\n", ErrTable},
		{"a byte behind it", "xref 1\n5\nroot 1\nat 22\nend\nx", ErrTable},
		{"the end twice", "xref 1\n5\nroot 1\nat 22\nend\nend\n", ErrTable},
		{"a return ahead of a newline", "xref 1\r\n5\nroot 1\nat 22\nend\n", ErrTable},
		{"two blanks", "xref  1\n5\nroot 1\nat 22\nend\n", ErrTable},
		{"a blank behind", "xref 1 \n5\nroot 1\nat 22\nend\n", ErrTable},
		{"other letters", "XREF 1\n5\nroot 1\nat 22\nend\n", ErrTable},
		{"the table twice", "xref 1\n5\nroot 1\nat 22\nend\nxref 1\n5\nroot 1\nat 22\nend\n", ErrTable},
		{"a table behind a table", "xref 1\n5\nroot 1\nat 22\nend\nxref 1\n5\nroot 1\nat 48\nend\n", OK},
		{"a table behind a word", "xref xref 1\n5\nroot 1\nat 27\nend\n", OK},
	} {
		wantCheck(t, "a table: "+c.what, body+c.table, c.errno, 0)
	}
	wantCheck(t, "a head only", head, ErrTable, 0)
	wantCheck(t, "a table right behind the head", head+tableOf(5, 1, 0), ErrRoot, 0)
}

func TestCheckCounts(t *testing.T) {
	for count := 1; count <= 33; count++ {
		file := fileOf(1, append([]string{plainRoot}, make([]string, count-1)...)...)
		if count > 30 {
			wantCheck(t, "more than 30 objects", file, ErrTable, 0)
			continue
		}
		wantCheck(t, "up to 30 objects", file, OK, 0)
	}
}

// TestCheckNoObject: a place of 0 tells that there is none, whatever stands elsewhere.
func TestCheckNoObject(t *testing.T) {
	wantCheck(t, "others are not there", fileOf(2, "", "2<</Type/Root>>;", ""), OK, 0)
	wantCheck(t, "the root is not there", fileOf(1, "", "2<</Type/Root>>;"), ErrRoot, 0)
	wantCheck(t, "none is there", head+plainRoot+tableOf(second, 1, 0), ErrRoot, 0)
}

// wantedTable is DOC.md's table, but for the bounds of its numbers.
var wantedTable = regexp.MustCompile(`xref (0|[1-9]\d{0,3})\n((?:(?:0|[1-9]\d{0,3})\n)*)root (0|[1-9]\d{0,3})\nat (0|[1-9]\d{0,3})\nend\n$`)

// endsWithTable tells the same as readTable in another way.
func endsWithTable(file string) bool {
	at := wantedTable.FindStringSubmatchIndex(file)
	if at == nil {
		return false
	}
	number := func(i int) int {
		n, _ := strconv.Atoi(file[at[2*i]:at[2*i+1]])
		return n
	}
	count, root := number(1), number(3)
	places := strings.Count(file[at[4]:at[5]], "\n")
	return 1 <= count && count <= 30 && places == count && 1 <= root && root <= count && number(4) == at[0]
}

// TestCheckChangedTables: each byte of a table left out, doubled, and in the place of others.
func TestCheckChangedTables(t *testing.T) {
	file := fileOf(2, plainRoot, "2<</Type/Root>>;", "")
	refused := 0
	try := func(changed string) {
		errno, _ := Check(changed)
		if (errno == ErrTable) == endsWithTable(changed) {
			t.Errorf("P2: a changed table: %q: %d", changed, errno)
		}
		if errno == ErrTable {
			refused++
		}
	}
	for i := strings.Index(file, "xref "); i < len(file); i++ {
		try(file[:i])
		try(file[:i] + file[i+1:])
		for _, b := range "0123456789 \n\r-+xrefotandX;\x00" {
			try(file[:i] + string(b) + file[i+1:])
			try(file[:i] + string(b) + file[i:])
		}
	}
	if refused < 1000 {
		t.Errorf("only %d changed tables were refused", refused)
	}
}
