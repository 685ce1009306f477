// Package rinse: documents of which only what is known to be harmless is left: see DOC.md.
package rinse

// Errno is what a call answers: OK or the reason for a refusal.
type Errno int

const (
	OK         Errno = 0
	ErrArg     Errno = 1  // limits that may not be
	ErrLong    Errno = 2  // above a bound
	ErrHead    Errno = 3  // no document
	ErrTable   Errno = 4  // no table
	ErrObject  Errno = 5  // no object
	ErrNest    Errno = 6  // too deep
	ErrTwice   Errno = 7  // a key that stands twice
	ErrOverlap Errno = 8  // objects one in another
	ErrPacked  Errno = 9  // no packing
	ErrRoot    Errno = 10 // no root
	ErrBig     Errno = 11 // too much would be written
	ErrSteps   Errno = 12 // too few steps
	ErrOut     Errno = 13 // too little may be written
)

// Limits is how many steps may be made, and how many bytes written.
type Limits struct{ Steps, Out int }

// Check tells what is wrong with a file (P2).
func Check(file string) (Errno, int) {
	_, errno, place := Rinse(file, greatest())
	return errno, place
}

// Unpack tells what a packing stands for (P3).
func Unpack(packed string) (string, Errno) {
	if len(packed) > maxFile {
		return "", ErrLong
	}
	plain := ""
	why := answer(func() { plain = unpack(packed, free, refusal{errno: ErrPacked}) })
	if why.errno != OK {
		return "", ErrPacked // whatever the reason: what is not known to be a packing is none
	}
	return plain, OK
}

// Rinse writes what is kept of a file (P4).
func Rinse(file string, l Limits) (string, Errno, int) {
	written := ""
	why := answer(func() { written = rinse(file, l) })
	return written, why.errno, why.place
}

// rinse gives up with the first error that applies.
func rinse(file string, l Limits) string {
	if !l.mayBe() {
		refuse(ErrArg, 0)
	}
	charge := allowance(l.Steps, refusal{errno: ErrSteps})
	room := allowance(l.Out, refusal{errno: ErrOut})
	written := write(readDocument(file, charge))
	room(len(written)) // only now is it known that there is no error, beside which the room would not matter
	return written
}

// Clean tells whether a file is as Rinse writes it (P6).
func Clean(file string) bool {
	written, errno, _ := Rinse(file, greatest())
	return errno == OK && written == file
}
