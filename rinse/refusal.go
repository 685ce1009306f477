package rinse

// refusal is why a call gives up: an error, and its place if it has one.
type refusal struct {
	errno Errno
	place int
}

// refuse gives up: it leaves all that is under way, by a panic, up to the nearest answer.
func refuse(errno Errno, place int) {
	panic(refusal{errno, place})
}

// answer does some work, and tells why it gave up, if it did.
func answer(work func()) (why refusal) {
	defer func() {
		switch r := recover().(type) {
		case nil:
		case refusal:
			why = r
		default:
			// A fault of the program itself: no call may panic, and what isn't known to be harmless must not pass.
			why = refusal{errno: ErrObject}
		}
	}()
	work()
	return refusal{}
}
