package rinse

import (
	"compress/flate"
	"io"
	"strings"
	"testing"
)

// wantPlain: packed stands for plain.
func wantPlain(t *testing.T, what, packed, plain string) {
	t.Helper()
	if got, e := Unpack(packed); got != plain || e != OK {
		t.Errorf("P3: %s: %.40q, %d, want %.40q, OK", what, got, e, plain)
	}
}

// wantErrno: packed is refused, and nothing else is answered.
func wantErrno(t *testing.T, what, packed string, want Errno) {
	t.Helper()
	if got, e := Unpack(packed); got != "" || e != want {
		t.Errorf("P3: %s: %.40q, %d, want nothing and %d", what, got, e, want)
	}
}

// textOf makes n bytes of which no three stand twice within the first thousands.
func textOf(n int) string {
	b := make([]byte, n)
	for i := range b {
		b[i] = byte(i*i/7 + i/256*31 + i)
	}
	return string(b)
}

// sample is a packing and what it stands for.
type sample struct {
	what, plain string
	packed      *packer
}

func everyByte() string {
	var b []byte
	for i := range 256 {
		b = append(b, byte(i))
	}
	return string(b)
}

// aAndEnd: a and the end have one bit each: 0 and 1.
func aAndEnd() []int { return lengthsOf(257, 97, 1, 256, 1) }

// aEndCopy: a has one bit (0), the end two (10), a copy of three bytes two (11).
func aEndCopy() []int { return lengthsOf(258, 97, 1, 256, 2, 257, 2) }

func samples() []sample {
	one := lengthsOf(1, 0, 1)
	none := lengthsOf(1)
	return []sample{
		{"a stored block", "abc", new(packer).stored(1, "abc")},
		{"a stored block with nothing", "", new(packer).stored(1, "")},
		{"stored blocks", "abcd", new(packer).stored(0, "ab").stored(0, "").stored(1, "cd")},
		{"the empty packing", "", new(packer).head(1, 1).fixedEnd()},
		{"every byte by the fixed code", everyByte(), new(packer).head(1, 1).fixedText(everyByte()).fixedEnd()},
		{"fixed blocks", "abab", new(packer).head(0, 1).fixedText("ab").fixedEnd().head(1, 1).fixedText("ab").fixedEnd()},
		{"a copy from the block ahead", "abcabc", new(packer).stored(0, "abc").head(1, 1).fixedCopy(3, 3).fixedEnd()},
		{"a copy into itself", "abababababa", new(packer).head(1, 1).fixedText("ab").fixedCopy(9, 2).fixedEnd()},
		{"the longest copy", strings.Repeat("a", 259), new(packer).head(1, 1).fixedText("a").fixedCopy(258, 1).fixedEnd()},
		{"258 by sign 284", strings.Repeat("a", 259), new(packer).head(1, 1).fixedText("a").fixedSign(284).number(5, 31).fixedDistance(1).fixedEnd()},
		{"codes of its own", "aaa", new(packer).own(1, aAndEnd(), none).code(4, 1)},
		{"own codes, a copy", "aaaa", new(packer).own(1, aEndCopy(), one).code(1, 0).code(2, 3).code(1, 0).code(2, 2)},
		{"all kinds of blocks", "aabca", new(packer).own(0, aAndEnd(), none).code(3, 1).stored(0, "b").head(0, 1).fixedText("c").fixedEnd().own(1, aAndEnd(), none).code(2, 1)},
	}
}

func TestUnpackSamples(t *testing.T) {
	for _, s := range samples() {
		wantPlain(t, s.what, s.packed.String(), s.plain)
	}
}

func TestUnpackWhatCompressorsWrite(t *testing.T) {
	texts := []string{"", "a", everyByte(), textOf(2000), strings.Repeat("abcabcabd", 222), strings.Repeat("\x00", 2000), strings.Repeat("all that is known, and nothing else; ", 50)}
	for _, text := range texts {
		for level := flate.HuffmanOnly; level <= flate.BestCompression; level++ {
			wantPlain(t, "level of a compressor", deflate(t, level, text), text)
		}
	}
}

func TestUnpackBehindTheLastBlock(t *testing.T) {
	for _, s := range samples() {
		packed, used := s.packed.String(), s.packed.n%8
		for bits := 0; used > 0 && bits < 256; bits += 1 << used {
			end := len(packed) - 1
			wantPlain(t, s.what+", other bits behind it", packed[:end]+string([]byte{packed[end] | byte(bits)}), s.plain)
		}
		for _, more := range []string{"\x00", "\x03", "\xff", "\x03\x00", packed} {
			wantErrno(t, s.what+", bytes behind it", packed+more, ErrPacked)
		}
	}
}

func TestUnpackCutOff(t *testing.T) {
	for _, s := range samples() {
		packed := s.packed.String()
		for n := range len(packed) {
			wantErrno(t, s.what+", cut off", packed[:n], ErrPacked)
		}
	}
	wantErrno(t, "no last block", new(packer).stored(0, "abc").String(), ErrPacked)
	wantErrno(t, "no last block", new(packer).head(0, 1).fixedText("abc").fixedEnd().String(), ErrPacked)
}

func TestUnpackStored(t *testing.T) {
	filled := new(packer).head(1, 0).toByte(1).number(16, 1).number(16, 0xfffe).number(8, 'x')
	wantPlain(t, "bits between a stored block's head and its length", filled.String(), "x")
	for bit := range 32 {
		b := []byte(new(packer).stored(1, "abc").String())
		b[1+bit/8] ^= 1 << (bit % 8)
		wantErrno(t, "a stored block's length and its turned bits do not fit", string(b), ErrPacked)
	}
	wantErrno(t, "a stored block's length twice", "\x01\x03\x00\x03\x00abc", ErrPacked)
	wantErrno(t, "a stored block longer than what is there", new(packer).head(1, 0).toByte(0).number(16, 65535).number(16, 0).String()+"abc", ErrPacked)
}

func TestUnpackNoKindOfBlock(t *testing.T) {
	wantErrno(t, "a block of kind 3", new(packer).head(1, 3).fixedEnd().String(), ErrPacked)
	wantErrno(t, "a block of kind 3 behind another", new(packer).head(0, 1).fixedEnd().head(1, 3).fixedEnd().String(), ErrPacked)
}

// TestUnpackMaxPlain: by bytes, by copies that reach the bound or go beyond it, and by blocks.
func TestUnpackMaxPlain(t *testing.T) {
	fits, beyond := textOf(2000), textOf(2001)
	wantPlain(t, "2000 bytes, stored", new(packer).stored(1, fits).String(), fits)
	wantErrno(t, "2001 bytes, stored", new(packer).stored(1, beyond).String(), ErrPacked)
	wantPlain(t, "2000 bytes, fixed", new(packer).head(1, 1).fixedText(fits).fixedEnd().String(), fits)
	wantErrno(t, "2001 bytes, fixed", new(packer).head(1, 1).fixedText(beyond).fixedEnd().String(), ErrPacked)
	for length := 3; length <= 258; length++ {
		for over := range 2 {
			ahead := textOf(2000 + over - length)
			packed := new(packer).stored(0, ahead).head(1, 1).fixedCopy(length, 1000).fixedEnd().String()
			if over == 1 {
				wantErrno(t, "a copy up to 2001 bytes", packed, ErrPacked)
				continue
			}
			wantPlain(t, "a copy up to 2000 bytes", packed, ahead+ahead[len(ahead)-1000:][:length])
		}
	}
	wantPlain(t, "2000 bytes, two blocks", new(packer).stored(0, fits[:1999]).stored(1, fits[1999:]).String(), fits)
	wantErrno(t, "2001 bytes, two blocks", new(packer).stored(0, fits).stored(1, "x").String(), ErrPacked)
	wantPlain(t, "nothing behind 2000 bytes", new(packer).stored(0, fits).stored(0, "").head(1, 1).fixedEnd().String(), fits)
	wantErrno(t, "very many bytes", deflate(t, 9, strings.Repeat("x", 1000000)), ErrPacked)
}

func TestUnpackMaxFile(t *testing.T) {
	empty := strings.Repeat(new(packer).stored(0, "").String(), 1799)
	wantPlain(t, "9000 bytes", empty+new(packer).stored(1, "").String(), "")
	wantErrno(t, "9000 bytes that are no packing", strings.Repeat("\xff", 9000), ErrPacked)
	wantErrno(t, "9001 bytes that would be a packing", empty+new(packer).stored(1, "x").String(), ErrLong)
	wantErrno(t, "9001 bytes that are no packing", strings.Repeat("\xff", 9001), ErrLong)
	wantErrno(t, "a million bytes", strings.Repeat("\x00", 1000000), ErrLong)
}

// TestUnpackEachLength: every length that a copy can have; the byte behind it tells whether a bit too many was taken.
func TestUnpackEachLength(t *testing.T) {
	for length := 3; length <= 258; length++ {
		want := strings.Repeat("xyz", 100)[:3+length] + "\xff"
		wantPlain(t, "each length", new(packer).head(1, 1).fixedText("xyz").fixedCopy(length, 3).fixedText("\xff").fixedEnd().String(), want)
	}
}

// TestUnpackEachDistance: every distance that can be within 2000 bytes, with a byte behind the copy as above, and those that go beyond what has come out.
func TestUnpackEachDistance(t *testing.T) {
	ahead := textOf(1996)
	for distance := 1; distance <= 32768; distance += 1 + distance/2500*100 {
		packed := new(packer).stored(0, ahead).head(1, 1).fixedCopy(3, distance).fixedText("\xff").fixedEnd().String()
		if distance > len(ahead) {
			wantErrno(t, "a distance beyond what has come out", packed, ErrPacked)
			continue
		}
		want := ahead
		for range 3 {
			want += want[len(want)-distance:][:1]
		}
		wantPlain(t, "each distance", packed, want+"\xff")
	}
	wantErrno(t, "a copy of nothing", new(packer).head(1, 1).fixedCopy(3, 1).fixedEnd().String(), ErrPacked)
	wantErrno(t, "a byte beyond", new(packer).head(1, 1).fixedText("ab").fixedCopy(3, 3).fixedEnd().String(), ErrPacked)
	wantErrno(t, "a byte beyond, behind a block", new(packer).stored(0, "ab").head(1, 1).fixedCopy(3, 3).fixedEnd().String(), ErrPacked)
}

func TestUnpackSignsThatMustNotOccur(t *testing.T) {
	for _, sign := range []int{286, 287} {
		start := func() *packer { return new(packer).head(1, 1).fixedText("a").fixedSign(sign) }
		wantErrno(t, "sign 286 or 287, and a distance", start().fixedDistance(1).fixedEnd().String(), ErrPacked)
		wantErrno(t, "sign 286 or 287, and the end", start().fixedEnd().String(), ErrPacked)
	}
	for _, distance := range []int{30, 31} {
		for bits := range 15 {
			packed := new(packer).stored(0, textOf(1000)).head(1, 1).fixedSign(257).code(5, distance).number(bits, 0).fixedEnd()
			wantErrno(t, "distance 30 or 31", packed.String(), ErrPacked)
		}
	}
}

// TestUnpackCounts: how many lengths a block may have.
func TestUnpackCounts(t *testing.T) {
	for n := 257; n <= 288; n++ {
		packed := new(packer).own(1, lengthsOf(n, 97, 1, 256, 1), lengthsOf(1)).code(2, 1).String()
		if n > 286 {
			wantErrno(t, "more than 286 lengths of bytes", packed, ErrPacked)
			continue
		}
		wantPlain(t, "up to 286 lengths of bytes", packed, "a")
	}
	for n := 1; n <= 32; n++ {
		packed := new(packer).own(1, aEndCopy(), lengthsOf(n, 0, 1)).code(1, 0).code(2, 3).code(1, 0).code(2, 2).String()
		if n > 30 {
			wantErrno(t, "more than 30 lengths of distances", packed, ErrPacked)
			continue
		}
		wantPlain(t, "up to 30 lengths of distances", packed, "aaaa")
	}
}

// signRow is an alphabet's lengths, and whether they may be.
type signRow struct {
	what    string
	lengths []int
	ok      bool
}

// TestUnpackCodeOfLengths: what is told by it is right each time.
func TestUnpackCodeOfLengths(t *testing.T) {
	runs := []run{{18, 97}, {1, 0}, {18, 138}, {18, 20}, {1, 0}, {0, 0}}
	for _, c := range []signRow{
		{"whole", lengthsOf(19, 0, 2, 1, 1, 18, 2), true},
		{"whole, a sign that does not occur", lengthsOf(19, 0, 2, 1, 2, 18, 2, 5, 2), true},
		{"whole, seven bits", lengthsOf(19, 0, 7, 1, 7, 18, 6, 2, 5, 3, 4, 4, 3, 5, 2, 6, 1), true},
		{"too little", lengthsOf(19, 0, 2, 1, 2, 18, 2), false},
		{"a little too little", lengthsOf(19, 0, 7, 1, 1, 18, 2), false},
		{"too much", lengthsOf(19, 0, 2, 1, 1, 18, 2, 3, 7), false},
		{"far too much", lengthsOf(19, 0, 2, 1, 1, 18, 2, 2, 1, 3, 1), false},
	} {
		packed := new(packer).ownHead(1, 257, 1, c.lengths, runs).code(2, 1).String()
		if c.ok {
			wantPlain(t, "code of lengths: "+c.what, packed, "a")
			continue
		}
		wantErrno(t, "code of lengths: "+c.what, packed, ErrPacked)
	}
	wantErrno(t, "code of lengths: no sign", new(packer).ownHead(1, 257, 1, lengthsOf(19), nil).number(16, 0).String(), ErrPacked)
	for sign := range 19 {
		packed := new(packer).ownHead(1, 257, 1, lengthsOf(19, sign, 1), nil).number(900, 0).String()
		wantErrno(t, "code of lengths: one sign", packed, ErrPacked)
	}
}

// TestUnpackCodeOfBytes: the code of bytes, ends and copies.
func TestUnpackCodeOfBytes(t *testing.T) {
	for _, c := range []signRow{
		{"whole", aAndEnd(), true},
		{"whole, 15 bits", lengthsOf(257, 1, 1, 2, 2, 3, 3, 4, 4, 5, 5, 6, 6, 7, 7, 8, 8, 9, 9, 10, 10, 11, 11, 12, 12, 13, 13, 97, 14, 98, 15, 256, 15), true},
		{"two signs of two bits", lengthsOf(257, 97, 2, 256, 2), false},
		{"three quarters", lengthsOf(257, 97, 1, 256, 2), false},
		{"a little too little", lengthsOf(257, 97, 1, 256, 15), false},
		{"too much by a half", lengthsOf(258, 97, 1, 256, 1, 257, 1), false},
		{"too much by a little", lengthsOf(258, 97, 1, 256, 1, 257, 15), false},
	} {
		packed := new(packer).own(1, c.lengths, lengthsOf(1)).sign(c.lengths, 97).sign(c.lengths, 256).String()
		if c.ok {
			wantPlain(t, "code of bytes: "+c.what, packed, "a")
			continue
		}
		wantErrno(t, "code of bytes: "+c.what, packed, ErrPacked)
	}
}

func TestUnpackOneSignOfBytes(t *testing.T) {
	onlyEnd := lengthsOf(257, 256, 1)
	wantPlain(t, "the end only, of one bit", new(packer).own(1, onlyEnd, lengthsOf(1)).code(1, 0).String(), "")
	wantErrno(t, "the bit that is no sign's", new(packer).own(1, onlyEnd, lengthsOf(1)).code(1, 1).number(20, 0).String(), ErrPacked)
	for bits := 2; bits <= 15; bits++ {
		packed := new(packer).own(1, lengthsOf(257, 256, bits), lengthsOf(1)).code(bits, 0)
		wantErrno(t, "the end only, of more bits", packed.String(), ErrPacked)
	}
}

func TestUnpackEndHasNoCode(t *testing.T) {
	for _, lengths := range [][]int{lengthsOf(257), lengthsOf(257, 97, 1), lengthsOf(257, 97, 1, 98, 1), lengthsOf(258, 97, 1, 257, 1)} {
		for n := range 40 {
			packed := new(packer).own(1, lengths, lengthsOf(1, 0, 1)).number(n, 0)
			wantErrno(t, "the end has no code", packed.String(), ErrPacked)
		}
	}
}

// TestUnpackCodeOfDistances: it must be right, whether a copy follows or not.
func TestUnpackCodeOfDistances(t *testing.T) {
	for _, c := range []signRow{
		{"whole", lengthsOf(2, 0, 1, 1, 1), true},
		{"whole, four signs", lengthsOf(30, 0, 2, 7, 2, 28, 2, 29, 2), true},
		{"one sign of one bit", lengthsOf(1, 0, 1), true},
		{"one sign of two bits", lengthsOf(1, 0, 2), false},
		{"one sign of 15 bits", lengthsOf(1, 0, 15), false},
		{"two signs of two bits", lengthsOf(2, 0, 2, 1, 2), false},
		{"three quarters", lengthsOf(2, 0, 1, 1, 2), false},
		{"too much by a half", lengthsOf(3, 0, 1, 1, 1, 2, 1), false},
		{"too much by a little", lengthsOf(3, 0, 1, 1, 1, 2, 15), false},
	} {
		with := new(packer).own(1, aEndCopy(), c.lengths).code(1, 0).code(2, 3).sign(c.lengths, 0).code(2, 2).String()
		without := new(packer).own(1, aEndCopy(), c.lengths).code(1, 0).code(2, 2).String()
		if c.ok {
			wantPlain(t, "code of distances: "+c.what, with, "aaaa")
			wantPlain(t, "code of distances, not used: "+c.what, without, "a")
			continue
		}
		wantErrno(t, "code of distances: "+c.what, with, ErrPacked)
		wantErrno(t, "code of distances, not used: "+c.what, without, ErrPacked)
	}
}

func TestUnpackFewDistances(t *testing.T) {
	for n := 1; n <= 30; n++ {
		wantPlain(t, "no distances, no copy", new(packer).own(1, aEndCopy(), lengthsOf(n)).code(1, 0).code(2, 2).String(), "a")
		for bits := range 20 {
			packed := new(packer).own(1, aEndCopy(), lengthsOf(n)).code(1, 0).code(2, 3).number(bits, 0).code(2, 2)
			wantErrno(t, "no distances, but a copy", packed.String(), ErrPacked)
		}
	}
	other := new(packer).own(1, aEndCopy(), lengthsOf(1, 0, 1)).code(1, 0).code(2, 3).code(1, 1).code(2, 2)
	wantErrno(t, "one distance, but the other bit", other.String(), ErrPacked)
	second := lengthsOf(2, 1, 1)
	wantPlain(t, "one distance, not the first", new(packer).own(1, aEndCopy(), second).code(2, 0).code(2, 3).code(1, 0).code(2, 2).String(), "aaaaa")
	wantErrno(t, "one distance, beyond what has come out", new(packer).own(1, aEndCopy(), second).code(1, 0).code(2, 3).code(1, 0).code(2, 2).String(), ErrPacked)
}

// runRow is a block's lengths, told by runs, and what the block stands for.
type runRow struct {
	what                         string
	byteLengths, distanceLengths int
	runs                         []run
	bits                         string
	plain                        string
}

func (c runRow) packed() string {
	of := lengthsOf(19, 0, 3, 1, 3, 2, 3, 3, 3, 16, 3, 17, 3, 18, 2)
	p := new(packer).ownHead(1, c.byteLengths, c.distanceLengths, of, c.runs)
	for _, bit := range c.bits {
		p.bit(int(bit - '0'))
	}
	return p.String()
}

// four and three: the last bytes and the end have two bits each; or the end one, and two bytes two.
const four, fourPlain = "00011011", "\xfd\xfe\xff"
const three, threePlain = "10110", "\xfe\xff"

func TestUnpackRuns(t *testing.T) {
	for _, c := range []runRow{
		{"the longest run of none", 257, 1, []run{{18, 138}, {18, 115}, {2, 0}, {2, 0}, {2, 0}, {2, 0}, {0, 0}}, four, fourPlain},
		{"the shortest long run of none", 257, 1, []run{{18, 138}, {18, 104}, {18, 11}, {2, 0}, {2, 0}, {2, 0}, {2, 0}, {0, 0}}, four, fourPlain},
		{"the shortest short run of none", 257, 1, []run{{18, 138}, {18, 112}, {17, 3}, {2, 0}, {2, 0}, {2, 0}, {2, 0}, {0, 0}}, four, fourPlain},
		{"the longest short run of none", 257, 1, []run{{17, 10}, {18, 138}, {18, 105}, {2, 0}, {2, 0}, {2, 0}, {2, 0}, {0, 0}}, four, fourPlain},
		{"a length again", 257, 1, []run{{18, 138}, {18, 115}, {2, 0}, {16, 3}, {0, 0}}, four, fourPlain},
		{"again behind the first length", 257, 1, []run{{0, 0}, {16, 6}, {18, 138}, {18, 108}, {2, 0}, {2, 0}, {2, 0}, {2, 0}, {0, 0}}, four, fourPlain},
		{"none again, behind a run", 257, 1, []run{{18, 138}, {18, 109}, {16, 6}, {2, 0}, {2, 0}, {2, 0}, {2, 0}, {0, 0}}, four, fourPlain},
		{"again behind again", 257, 4, []run{{18, 138}, {18, 115}, {2, 0}, {16, 3}, {16, 4}}, four, fourPlain},
		{"again, on into the distances", 257, 4, []run{{18, 138}, {18, 115}, {2, 0}, {16, 6}, {2, 0}}, four, fourPlain},
		{"again, at the first distance", 257, 4, []run{{18, 138}, {18, 115}, {2, 0}, {2, 0}, {2, 0}, {2, 0}, {16, 4}}, four, fourPlain},
		{"a short run of none, on into the distances", 258, 3, []run{{18, 138}, {18, 115}, {2, 0}, {16, 3}, {17, 4}}, four, fourPlain},
		{"a long run of none, on into the distances", 258, 10, []run{{18, 138}, {18, 115}, {2, 0}, {16, 3}, {18, 11}}, four, fourPlain},
		{"each length by itself", 257, 2, []run{{18, 138}, {18, 116}, {2, 0}, {2, 0}, {1, 0}, {1, 0}, {1, 0}}, three, threePlain},
	} {
		wantPlain(t, c.what, c.packed(), c.plain)
	}
}

// TestUnpackRunsThatMustNotBe: all else of these blocks is right.
func TestUnpackRunsThatMustNotBe(t *testing.T) {
	for _, c := range []runRow{
		{"again, ahead of any length", 257, 1, []run{{16, 3}, {18, 138}, {18, 112}, {2, 0}, {2, 0}, {2, 0}, {2, 0}, {0, 0}}, four, ""},
		{"again, beyond the lengths", 257, 2, []run{{18, 138}, {18, 116}, {2, 0}, {2, 0}, {1, 0}, {16, 3}}, three, ""},
		{"a short run of none, beyond the lengths", 258, 2, []run{{18, 138}, {18, 115}, {2, 0}, {16, 3}, {17, 4}}, four, ""},
		{"a long run of none, beyond the lengths", 258, 9, []run{{18, 138}, {18, 115}, {2, 0}, {16, 3}, {18, 11}}, four, ""},
	} {
		wantErrno(t, c.what, c.packed(), ErrPacked)
	}
}

// broken hands out the samples, and what a compressor writes, with each bit turned.
func broken(t *testing.T) func(yield func(string) bool) {
	packings := []string{deflate(t, 9, strings.Repeat("all that is known, and nothing else; ", 9)), deflate(t, 9, textOf(300)+textOf(200))}
	for _, s := range samples() {
		packings = append(packings, s.packed.String())
	}
	return func(yield func(string) bool) {
		for _, packed := range packings {
			for i := range 8 * len(packed) {
				b := []byte(packed)
				b[i/8] ^= 1 << (i % 8)
				if !yield(string(b)) {
					return
				}
			}
		}
	}
}

// TestUnpackTurnedBits: what is still a packing stands for what the library says it does.
func TestUnpackTurnedBits(t *testing.T) {
	for packed := range broken(t) {
		plain, e := Unpack(packed)
		if e != OK && (plain != "" || e != ErrPacked) {
			t.Errorf("P1: %x: %q, %d", packed, plain, e)
		}
		if e != OK {
			continue
		}
		rest := strings.NewReader(packed)
		want, err := io.ReadAll(flate.NewReader(rest))
		if err != nil || string(want) != plain || rest.Len() > 0 {
			t.Errorf("P3: %x: %q, want %q, %v, %d bytes left", packed, plain, want, err, rest.Len())
		}
	}
}

// TestUnpackGivesUp: Unpack would hide a fault of its own as a refusal.
func TestUnpackGivesUp(t *testing.T) {
	for packed := range broken(t) {
		if what := fault(func() { unpack(packed, free, refusal{errno: ErrPacked}) }); what != nil {
			t.Errorf("P1: %x: %v", packed, what)
		}
	}
}

// TestUnpackAgain: an answer hangs on nothing that went before.
func TestUnpackAgain(t *testing.T) {
	for _, s := range samples() {
		packed := s.packed.String()
		wantPlain(t, s.what, packed, s.plain)
		wantErrno(t, s.what+", cut off", packed[:len(packed)-1], ErrPacked)
		wantPlain(t, s.what+", again", packed, s.plain)
	}
}
