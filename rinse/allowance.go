package rinse

const (
	maxFile    = 9000 // bytes of a file, or of a packing by itself
	maxObjects = 30
	maxNest    = 6    // arrays and dictionaries one in another
	maxPlain   = 2000 // bytes that a packing may stand for
	maxSteps   = 100000000
)

// greatest are limits with which every file has its answer: the dearest take some two millions of these steps.
func greatest() Limits { return Limits{Steps: maxSteps, Out: maxFile} }

func (l Limits) mayBe() bool {
	return 0 <= l.Steps && l.Steps <= maxSteps && 0 <= l.Out && l.Out <= maxFile
}

// allowance answers what takes from an amount, and gives up, with why, when too little of it is left.
func allowance(amount int, why refusal) func(int) {
	return func(n int) {
		if n > amount {
			panic(why)
		}
		amount -= n
	}
}

// free charges nothing, where no limits are handed in.
func free(int) {}
