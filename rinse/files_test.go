package rinse

import (
	"strconv"
	"strings"
	"testing"
)

// fileOf makes a file of objects, one behind the other; an empty one is not there.
func fileOf(root int, objects ...string) string {
	file := head
	places := make([]int, len(objects))
	for i, object := range objects {
		if object != "" {
			places[i] = len(file)
			file += object
		}
	}
	return file + tableOf(len(file), root, places...)
}

// tableOf makes the table that stands at a place.
func tableOf(at, root int, places ...int) string {
	lines := "xref " + strconv.Itoa(len(places)) + "\n"
	for _, place := range places {
		lines += strconv.Itoa(place) + "\n"
	}
	return lines + "root " + strconv.Itoa(root) + "\nat " + strconv.Itoa(at) + "\nend\n"
}

const (
	plainRoot = "1 <</Type/Root>>;"
	second    = len(head) + len(plainRoot) // the place of what stands behind that root
)

// packedText is an object of the type Text whose stream is packed.
func packedText(number int, packed string) string {
	return strconv.Itoa(number) + "<</Type/Text/F/Z>>~" + strconv.Itoa(len(packed)) + ":" + packed + ";"
}

// enough is how many steps are great enough for a file (P4).
func enough(file string) int { return 1000*min(len(file), 9000) + 60000000 }

// wantCheck: Check answers that, and again; Rinse answers it too, beside limits that are great enough.
func wantCheck(t *testing.T, what, file string, errno Errno, place int) {
	t.Helper()
	for range 2 {
		if e, at := Check(file); e != errno || at != place {
			t.Errorf("P2: %s: %.300q: %d, %d, want %d, %d", what, file, e, at, errno, place)
		}
	}
	out := 0
	if errno == OK {
		out = 9000
	}
	for _, l := range []Limits{{100000000, 9000}, {enough(file), out}} {
		if written, e, at := Rinse(file, l); e != errno || at != place || (written != "") != (errno == OK) {
			t.Errorf("P4: %s: %.300q, %v: %.300q, %d, %d, want %d, %d", what, file, l, written, e, at, errno, place)
		}
	}
	if errno != OK && Clean(file) {
		t.Errorf("P6: %s: %.300q is clean", what, file)
	}
}

// wantSecond: an object of the number 2, behind a root and right ahead of the table; the place is counted from its first byte.
func wantSecond(t *testing.T, object string, errno Errno, place int) {
	t.Helper()
	if errno != OK {
		place += second
	}
	wantCheck(t, "object 2", fileOf(1, plainRoot, object), errno, place)
}

func TestCheckLong(t *testing.T) {
	filled := func(size int) string {
		at := size - len(tableOf(9000, 1, len(head)))
		return head + plainRoot + strings.Repeat("x", at-second) + tableOf(at, 1, len(head))
	}
	if n := len(filled(9000)); n != 9000 {
		t.Fatal(n)
	}
	wantCheck(t, "9000 bytes", filled(9000), OK, 0)
	wantCheck(t, "9001 bytes, else right", filled(9001), ErrLong, 0)
	wantCheck(t, "9000 bytes of no file", strings.Repeat("x", 9000), ErrHead, 0)
	wantCheck(t, "9001 bytes of no file", strings.Repeat("x", 9001), ErrLong, 0)
	wantCheck(t, "many bytes", strings.Repeat(filled(9000), 1000), ErrLong, 0)
}

func TestCheckHead(t *testing.T) {
	for n := range len(head) {
		wantCheck(t, "a head cut off", head[:n], ErrHead, 0)
		cut := head[:n] + head[n+1:]
		wantCheck(t, "a byte too little", cut+plainRoot+tableOf(second-1, 1, len(head)-1), ErrHead, 0)
		other := head[:n] + "x" + head[n+1:]
		wantCheck(t, "another byte", other+plainRoot+tableOf(second, 1, len(head)), ErrHead, 0)
	}
	for _, other := range []string{"doc1\n", "DOC2\n", "DOC1\r", "DOC1 ", " DOC1\n", "\nDOC1\n", "DOC1\x00"} {
		wantCheck(t, "another head", other+plainRoot+tableOf(len(other)+len(plainRoot), 1, len(other)), ErrHead, 0)
	}
	wantCheck(t, "the head twice", head+head+plainRoot+tableOf(second+5, 1, 10), OK, 0)
}
