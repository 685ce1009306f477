// Package rinse: documents of which only what is known to be harmless is left: see DOC.md.
package rinse

// Errno is what a call answers: OK or the reason for a refusal.
type Errno int

const (
	OK         Errno = 0
	ErrArg     Errno = 1  // limits that may not be
	ErrLong    Errno = 2  // above a bound
	ErrHead    Errno = 3  // no document
	ErrTable   Errno = 4  // no table
	ErrObject  Errno = 5  // no object
	ErrNest    Errno = 6  // too deep
	ErrTwice   Errno = 7  // a key that stands twice
	ErrOverlap Errno = 8  // objects one in another
	ErrPacked  Errno = 9  // no packing
	ErrRoot    Errno = 10 // no root
	ErrBig     Errno = 11 // too much would be written
	ErrSteps   Errno = 12 // too few steps
	ErrOut     Errno = 13 // too little may be written
)

// Limits is how many steps may be made, and how many bytes written.
type Limits struct{ Steps, Out int }

// Check tells what is wrong with a file (P2).
func Check(file string) (Errno, int) {
	why := answer(func() { write(readDocument(file)) })
	return why.errno, why.place
}

// Unpack tells what a packing stands for (P3).
func Unpack(packed string) (string, Errno) {
	if len(packed) > maxFile {
		return "", ErrLong
	}
	return unpackOrRefuse(packed)
}

// Rinse writes what is kept of a file (P4).
func Rinse(file string, l Limits) (string, Errno, int) { return "", 0, 0 }

// Clean tells whether a file is as Rinse writes it (P6).
func Clean(file string) bool { return false }
