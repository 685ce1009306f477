package rinse

const maxLength = 15 // bits of a sign's code

// code is a code in which the lengths alone tell the bits: shorter ones first, those of one length by their signs.
type code struct {
	counts [maxLength + 1]int // how many signs have a code of that length
	signs  []int              // those that have one, by their codes
}

// newCode makes a code of the length that each sign has, 0 for none.
func newCode(lengths []int) code {
	var c code
	for _, length := range lengths {
		if length > 0 {
			c.counts[length]++
		}
	}
	var places [maxLength + 1]int
	total := 0
	for length, count := range c.counts {
		places[length] = total
		total += count
	}
	c.signs = make([]int, total)
	for sign, length := range lengths {
		if length > 0 {
			c.signs[places[length]] = sign
			places[length]++
		}
	}
	return c
}

// code is newCode, charged.
func (r *reader) code(lengths []int) code {
	r.charge(len(lengths))
	return newCode(lengths)
}

// isWhole tells whether the signs are 1 together, counted in parts of 2 to the power of minus maxLength.
func (c code) isWhole() bool {
	sum := 0
	for length, count := range c.counts {
		sum += count << (maxLength - length)
	}
	return sum == 1<<maxLength
}

// isSingle tells whether there is one sign only, of one bit.
func (c code) isSingle() bool {
	return len(c.signs) == 1 && c.counts[1] == 1
}

func (c code) isEmpty() bool {
	return len(c.signs) == 0
}

// sign takes the bits of one sign, the first of its code first.
func (r *reader) sign(c code) int {
	above := 0   // how far the bits so far are above the lowest code of their length
	shorter := 0 // how many signs have a shorter code
	for i, bit := range r.next(maxLength) {
		above = 2*above + bit
		count := c.counts[i+1]
		if above < count {
			return c.signs[shorter+above]
		}
		above -= count
		shorter += count
	}
	panic(r.why)
}
