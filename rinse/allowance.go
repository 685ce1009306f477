package rinse

const (
	maxFile    = 9000 // bytes of a file, or of a packing by itself
	maxObjects = 30
	maxNest    = 6    // arrays and dictionaries one in another
	maxPlain   = 2000 // bytes that a packing may stand for
)

// allowance answers what takes from an amount, and gives up, with why, when too little of it is left.
func allowance(amount int, why Errno) func(int) {
	return func(n int) {
		if n > amount {
			refuse(why, 0)
		}
		amount -= n
	}
}
