package rinse

import (
	"bytes"
	"compress/flate"
	"testing"
)

// packer writes packings by hand, so that also what no compressor writes can be tried.
type packer struct {
	bytes []byte
	n     int // bits written
}

// bit writes one bit, the lowest of each byte first.
func (p *packer) bit(b int) {
	if p.n%8 == 0 {
		p.bytes = append(p.bytes, 0)
	}
	p.bytes[p.n/8] |= byte(b << (p.n % 8))
	p.n++
}

// number writes a number of n bits, the lowest first.
func (p *packer) number(n, value int) *packer {
	for i := range n {
		p.bit(value >> i & 1)
	}
	return p
}

// code writes the first n bits of a code, the highest first.
func (p *packer) code(n, value int) *packer {
	for i := range n {
		p.bit(value >> (n - 1 - i) & 1)
	}
	return p
}

// sign writes a sign's code: it is the room that all the signs ahead of it (those with shorter codes, and those of its length that come first) take.
func (p *packer) sign(lengths []int, sign int) *packer {
	own, value := lengths[sign], 0
	for s, l := range lengths {
		if l > 0 && (l < own || l == own && s < sign) {
			value += 1 << (own - l)
		}
	}
	return p.code(own, value)
}

// toByte fills up the byte that was begun with bits that say nothing.
func (p *packer) toByte(filler int) *packer {
	for p.n%8 != 0 {
		p.bit(filler)
	}
	return p
}

func (p *packer) head(last, kind int) *packer { return p.number(1, last).number(2, kind) }

func (p *packer) stored(last int, text string) *packer {
	p.head(last, 0).toByte(0).number(16, len(text)).number(16, 0xffff-len(text))
	for i := range len(text) {
		p.number(8, int(text[i]))
	}
	return p
}

// fixedSign writes a sign by the fixed code (the four rows of RFC 1951, 3.2.6).
func (p *packer) fixedSign(sign int) *packer {
	switch {
	case sign < 144:
		return p.code(8, 0x30+sign)
	case sign < 256:
		return p.code(9, 0x190+sign-144)
	case sign < 280:
		return p.code(7, sign-256)
	}
	return p.code(8, 0xc0+sign-280)
}

func (p *packer) fixedText(text string) *packer {
	for i := range len(text) {
		p.fixedSign(int(text[i]))
	}
	return p
}

// fixedCopy writes a copy by the fixed codes.
func (p *packer) fixedCopy(length, distance int) *packer {
	sign, bits, more := lengthSign(length)
	p.fixedSign(sign).number(bits, more)
	return p.fixedDistance(distance)
}

func (p *packer) fixedDistance(distance int) *packer {
	sign, bits, more := distanceSign(distance)
	return p.code(5, sign).number(bits, more)
}

func (p *packer) fixedEnd() *packer { return p.fixedSign(256) }

// lengthSign tells the sign for a copy of that length, and how many bits behind it tell what: above the first eight, each four signs have one bit more.
func lengthSign(length int) (sign, bits, more int) {
	if length == 258 {
		return 285, 0, 0
	}
	return spread(257, 4, length-3)
}

// distanceSign likewise: above the first four, each two signs have one bit more.
func distanceSign(distance int) (sign, bits, more int) {
	return spread(0, 2, distance-1)
}

func spread(first, group, value int) (sign, bits, more int) {
	sign = first
	for i := 0; ; i++ {
		bits = max(0, i/group-1)
		if value < 1<<bits {
			return sign + i, bits, value
		}
		value -= 1 << bits
	}
}

// lengthsOf lays out lengths by their signs: pairs of a sign and its length.
func lengthsOf(n int, pairs ...int) []int {
	lengths := make([]int, n)
	for i := 0; i < len(pairs); i += 2 {
		lengths[pairs[i]] = pairs[i+1]
	}
	return lengths
}

// run is a sign of the code of lengths, and what stands in the bits behind it.
type run struct{ sign, more int }

// ownHead writes the head of a block with codes of its own, by a code of lengths of all 19 signs.
func (p *packer) ownHead(last, byteLengths, distanceLengths int, ofLengths []int, runs []run) *packer {
	p.head(last, 2).number(5, byteLengths-257).number(5, distanceLengths-1).number(4, 15)
	for _, sign := range []int{16, 17, 18, 0, 8, 7, 9, 6, 10, 5, 11, 4, 12, 3, 13, 2, 14, 1, 15} {
		p.number(3, ofLengths[sign])
	}
	for _, r := range runs {
		p.sign(ofLengths, r.sign)
		switch r.sign {
		case 16:
			p.number(2, r.more-3)
		case 17:
			p.number(3, r.more-3)
		case 18:
			p.number(7, r.more-11)
		}
	}
	return p
}

// plainLengths is a whole code of lengths: 0 to 15 with four bits each, no runs.
func plainLengths() []int {
	lengths := make([]int, 19)
	for sign := range 16 {
		lengths[sign] = 4
	}
	return lengths
}

// own writes such a head with each length by itself.
func (p *packer) own(last int, byteLengths, distanceLengths []int) *packer {
	var runs []run
	for _, l := range append(append([]int{}, byteLengths...), distanceLengths...) {
		runs = append(runs, run{sign: l})
	}
	return p.ownHead(last, len(byteLengths), len(distanceLengths), plainLengths(), runs)
}

func (p *packer) String() string { return string(p.bytes) }

// deflate packs by the library's compressor.
func deflate(t *testing.T, level int, text string) string {
	t.Helper()
	var b bytes.Buffer
	w, err := flate.NewWriter(&b, level)
	if err != nil {
		t.Fatal(err)
	}
	if _, err := w.Write([]byte(text)); err != nil {
		t.Fatal(err)
	}
	if err := w.Close(); err != nil {
		t.Fatal(err)
	}
	return b.String()
}
