package rinse

import "strings"

// table is what stands at the end of a file.
type table struct {
	at     int   // its own place
	places []int // those of the objects, that of number 1 first; 0 if there is none
	root   int   // the number of the root
}

func readTable(file string, charge func(int)) table {
	giveUp := func(int) { refuse(ErrTable, 0) }
	charge(len(file))
	// A table has this word at its beginning and nowhere else: if there is one, it begins at the last.
	at := strings.LastIndex(file, "xref ")
	if at < 0 {
		giveUp(0)
	}
	s := scanner{file, at, len(file), giveUp, charge}
	t := table{at: at}
	count := s.line("xref ", 1, maxObjects)
	for range count {
		t.places = append(t.places, s.line("", 0, 9999))
	}
	t.root = s.line("root ", 1, count)
	s.line("at ", at, at)
	s.word("end\n")
	s.need(s.at == s.end)
	return t
}

// line takes a word, a number within bounds, and a newline.
func (s *scanner) line(word string, least, most int) int {
	s.word(word)
	n := s.count()
	s.need(least <= n && n <= most)
	s.word("\n")
	return n
}
