package rinse

import "slices"

// The kinds of blocks, by the number that stands at their head.
const (
	storedBlock = iota
	fixedBlock
	ownBlock
)

const (
	endSign            = 256 // of a block; below it are bytes, above it copies
	maxByteLengths     = 286
	maxDistanceLengths = 30
	lengthSigns        = 19
)

// The signs above the lengths themselves, in the code of lengths.
const (
	lengthAgain = iota + maxLength + 1
	fewNone
	manyNone
)

// lengthOrder is the order in which the code of lengths is told.
var lengthOrder = [lengthSigns]int{16, 17, 18, 0, 8, 7, 9, 6, 10, 5, 11, 4, 12, 3, 13, 2, 14, 1, 15}

// What the signs behind endSign stand for: the shortest copy, and how many bits tell what is to be added.
var (
	copyBase = [29]int{3, 4, 5, 6, 7, 8, 9, 10, 11, 13, 15, 17, 19, 23, 27, 31, 35, 43, 51, 59, 67, 83, 99, 115, 131, 163, 195, 227, 258}
	copyBits = [29]int{0, 0, 0, 0, 0, 0, 0, 0, 1, 1, 1, 1, 2, 2, 2, 2, 3, 3, 3, 3, 4, 4, 4, 4, 5, 5, 5, 5, 0}
)

// What the signs of distances stand for, likewise.
var (
	distanceBase = [maxDistanceLengths]int{1, 2, 3, 4, 5, 7, 9, 13, 17, 25, 33, 49, 65, 97, 129, 193, 257, 385, 513, 769, 1025, 1537, 2049, 3073, 4097, 6145, 8193, 12289, 16385, 24577}
	distanceBits = [maxDistanceLengths]int{0, 0, 0, 0, 1, 1, 2, 2, 3, 3, 4, 4, 5, 5, 6, 6, 7, 7, 8, 8, 9, 9, 10, 10, 11, 11, 12, 12, 13, 13}
)

// codes are those of one block.
type codes struct {
	bytes, distances code
}

// unpacker is an unpacking on its way.
type unpacker struct {
	*reader
	plain []byte    // what has come out
	room  func(int) // gives up when more comes out than may
}

// unpack gives up, with why, at what is no packing or stands for too much.
func unpack(packed string, charge func(int), why refusal) string {
	u := unpacker{reader: newReader(packed, charge, why), room: allowance(maxPlain, why)}
	for last := false; !last; {
		last = u.number(1) == 1
		u.block()
	}
	u.demand(u.atEnd())
	return string(u.plain)
}

func (u *unpacker) block() {
	switch u.number(2) {
	case storedBlock:
		u.stored()
	case fixedBlock:
		u.signs(u.fixedCodes())
	case ownBlock:
		u.signs(u.ownCodes())
	default:
		panic(u.why)
	}
}

func (u *unpacker) put(b byte) {
	u.charge(1)
	u.room(1)
	u.plain = append(u.plain, b)
}

func (u *unpacker) stored() {
	u.skipToByte()
	length := u.number(16)
	u.demand(u.number(16) == length^0xffff)
	for range length {
		u.put(byte(u.number(8)))
	}
}

// signs takes signs up to the end of the block.
func (u *unpacker) signs(c codes) {
	for {
		sign := u.sign(c.bytes)
		switch {
		case sign < endSign:
			u.put(byte(sign))
		case sign == endSign:
			return
		default:
			length := u.copyLength(sign - endSign - 1)
			u.copyBack(length, u.distance(u.sign(c.distances)))
		}
	}
}

func (r *reader) copyLength(sign int) int {
	r.demand(sign < len(copyBase))
	return copyBase[sign] + r.number(copyBits[sign])
}

func (r *reader) distance(sign int) int {
	r.demand(sign < len(distanceBase))
	return distanceBase[sign] + r.number(distanceBits[sign])
}

// copyBack goes byte by byte, as a copy may reach into what it puts itself.
func (u *unpacker) copyBack(length, distance int) {
	u.demand(distance <= len(u.plain))
	for range length {
		u.put(u.plain[len(u.plain)-distance])
	}
}

// fixedCodes also have codes for signs that must not occur: without them the others would have other bits.
func (r *reader) fixedCodes() codes {
	bytes := slices.Concat(
		slices.Repeat([]int{8}, 144),
		slices.Repeat([]int{9}, 112),
		slices.Repeat([]int{7}, 24),
		slices.Repeat([]int{8}, 8),
	)
	return codes{r.code(bytes), r.code(slices.Repeat([]int{5}, 32))}
}

// ownCodes takes the codes that stand at the head of a block.
func (r *reader) ownCodes() codes {
	byteLengths := endSign + 1 + r.number(5)
	distanceLengths := 1 + r.number(5)
	told := 4 + r.number(4)
	r.demand(byteLengths <= maxByteLengths && distanceLengths <= maxDistanceLengths)
	lengths := r.lengths(r.codeOfLengths(told), byteLengths+distanceLengths)
	c := codes{r.code(lengths[:byteLengths]), r.code(lengths[byteLengths:])}
	r.demand(lengths[endSign] > 0)
	r.demand(c.bytes.isWhole() || c.bytes.isSingle())
	r.demand(c.distances.isWhole() || c.distances.isSingle() || c.distances.isEmpty())
	return c
}

// codeOfLengths takes the code by which the lengths of the other two are told.
func (r *reader) codeOfLengths(told int) code {
	var lengths [lengthSigns]int
	for i := range told {
		lengths[lengthOrder[i]] = r.number(3)
	}
	c := r.code(lengths[:])
	r.demand(c.isWhole())
	return c
}

// lengths takes just so many lengths; a run may go from those of bytes on into those of distances.
func (r *reader) lengths(c code, count int) []int {
	var lengths []int
	for len(lengths) < count {
		length, times := r.sign(c), 1
		switch length {
		case lengthAgain:
			r.demand(len(lengths) > 0)
			length, times = lengths[len(lengths)-1], 3+r.number(2)
		case fewNone:
			length, times = 0, 3+r.number(3)
		case manyNone:
			length, times = 0, 11+r.number(7)
		}
		for range times {
			lengths = append(lengths, length)
		}
	}
	r.demand(len(lengths) == count)
	return lengths
}
