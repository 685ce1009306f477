package rinse

import "strconv"

// scanner stands at a byte of a file. What it takes is never the last of a thing, but for a word: so where the bytes end, the thing would go on.
type scanner struct {
	file   string
	at     int             // the place of the next byte
	end    int             // the place behind the last byte that may be taken
	giveUp func(place int) // at a byte that must not stand there
	charge func(int)       // for each look at a byte
}

// peek tells the next byte, and gives up if there is none.
func (s *scanner) peek() byte {
	s.charge(1)
	if s.at == s.end {
		s.giveUp(s.end)
	}
	return s.file[s.at]
}

// need gives up unless what must be of the next byte is so.
func (s *scanner) need(ok bool) {
	if !ok {
		s.giveUp(s.at)
	}
}

// word takes just these bytes.
func (s *scanner) word(word string) {
	for i := range len(word) {
		s.need(s.peek() == word[i])
		s.at++
	}
}

// some takes bytes of a sort: as many as stand there, but at least one, and no more than most.
func (s *scanner) some(most int, isOfSort func(byte) bool) string {
	from := s.at
	s.need(isOfSort(s.peek()))
	for s.at-from < most && isOfSort(s.peek()) {
		s.at++
	}
	return s.file[from:s.at]
}

// whole takes a number of one to most digits.
func (s *scanner) whole(most int) int {
	n, _ := strconv.Atoi(s.some(most, isDigit)) // so few digits always fit
	return n
}

// count takes a number of one to four digits, of which the first is 0 only if it is the only one.
func (s *scanner) count() int {
	if s.peek() == '0' {
		return s.whole(1)
	}
	return s.whole(4)
}

// bytes takes so many bytes of any sort.
func (s *scanner) bytes(n int) string {
	if n > s.end-s.at {
		s.giveUp(s.end)
	}
	s.at += n
	return s.file[s.at-n : s.at]
}

func isDigit(b byte) bool { return '0' <= b && b <= '9' }

func isLetter(b byte) bool { return 'A' <= b && b <= 'Z' || 'a' <= b && b <= 'z' }

func isBlank(b byte) bool { return b == ' ' || b == '\n' }
