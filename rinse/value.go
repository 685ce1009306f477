package rinse

// The kinds of values. That of an object, or of a key, that is not there is none.
const (
	noValue = iota
	nullValue
	trueValue
	falseValue
	numberValue
	stringValue
	nameValue
	referenceValue
	arrayValue
	dictionaryValue
)

// value is one of an object's; besides its kind it has what its kind asks for.
type value struct {
	kind      int
	number    float64
	text      string // of a string, as it stands between its parentheses; of a name, its letters
	reference int    // the number of the object that it names
	elements  []value
	keys      map[string]value
}

func (v value) isName(letters string) bool {
	return v.kind == nameValue && v.text == letters
}
