package rinse

const (
	maxFile  = 9000 // bytes of a file, or of a packing by itself
	maxPlain = 2000 // bytes that a packing may stand for
)

// allowance answers what takes from an amount, and gives up when too little of it is left: by a panic with why, which the call that set the amount catches.
func allowance(amount int, why Errno) func(int) {
	return func(n int) {
		if n > amount {
			panic(why)
		}
		amount -= n
	}
}
