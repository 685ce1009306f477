package rinse

import "iter"

// reader stands at a bit of a packing.
type reader struct {
	packed string
	at     int       // the number of the next bit
	take   func(int) // gives up when fewer bits are left than are taken
	charge func(int) // for each bit, and for what is made of them
	why    refusal   // of what is no packing
}

func newReader(packed string, charge func(int), why refusal) *reader {
	return &reader{packed: packed, take: allowance(8*len(packed), why), charge: charge, why: why}
}

// demand gives up unless what a packing must be is so.
func (r *reader) demand(ok bool) {
	if !ok {
		panic(r.why)
	}
}

// next hands out the next n bits, counted from 0, the lowest of each byte first. Only what is handed out is taken: a loop that ends early leaves the rest to the next one.
func (r *reader) next(n int) iter.Seq2[int, int] {
	return func(yield func(int, int) bool) {
		for i := range n {
			r.charge(1)
			r.take(1)
			bit := int(r.packed[r.at/8]>>(r.at%8)) & 1
			r.at++
			if !yield(i, bit) {
				return
			}
		}
	}
}

// number takes a number of n bits, the lowest first.
func (r *reader) number(n int) int {
	value := 0
	for i, bit := range r.next(n) {
		value |= bit << i
	}
	return value
}

// skipToByte takes what is left of a byte that was begun.
func (r *reader) skipToByte() {
	r.number((8 - r.at%8) % 8)
}

// atEnd tells whether no whole byte is left.
func (r *reader) atEnd() bool {
	return (r.at+7)/8 == len(r.packed)
}
