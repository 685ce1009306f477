package rinse

import "strconv"

// parser takes an object apart. What is too deep or stands twice it only notes: a byte further on with which the object cannot go on is told ahead of them.
type parser struct {
	scanner
	open    int // how many arrays and dictionaries the next sign stands in
	tooDeep int // the place of the first one that stands too deep, 0 if none does
	twice   int // the place of the first key that stands there for the second time, likewise
}

// object is one of a file: its value, and what stands around it.
type object struct {
	value
	place, end int // of its first byte, and of that behind its last one
	hasStream  bool
	stream     string
}

// readObject takes the object of that number; if the table has none, it is one without a value.
func readObject(file string, t table, number int, charge func(int)) object {
	place := t.places[number-1]
	if place == 0 {
		return object{}
	}
	giveUp := func(at int) { refuse(ErrObject, at) }
	if place < len(head) || place >= t.at {
		giveUp(place)
	}
	p := parser{scanner: scanner{file, place, t.at, giveUp, charge}}
	o := p.object(number)
	if p.tooDeep > 0 {
		refuse(ErrNest, p.tooDeep)
	}
	if p.twice > 0 {
		refuse(ErrTwice, p.twice)
	}
	return o
}

func (p *parser) object(number int) object {
	o := object{place: p.at}
	p.word(strconv.Itoa(number))
	p.need(!isDigit(p.peek()))
	o.value = p.value()
	if p.nextSign() == '~' {
		p.need(o.kind == dictionaryValue)
		o.hasStream, o.stream = true, p.stream()
	}
	p.nextSign()
	p.word(";")
	o.end = p.at
	return o
}

// nextSign tells the first byte of the next sign, behind what blanks stand ahead of it.
func (p *parser) nextSign() byte {
	for isBlank(p.peek()) {
		p.at++
	}
	return p.peek()
}

func (p *parser) stream() string {
	p.word("~")
	p.nextSign()
	length := p.count()
	p.word(":")
	return p.bytes(length)
}

func (p *parser) value() value {
	switch p.nextSign() {
	case 'n':
		p.word("null")
		return value{kind: nullValue}
	case 't':
		p.word("true")
		return value{kind: trueValue}
	case 'f':
		p.word("false")
		return value{kind: falseValue}
	case '(':
		return value{kind: stringValue, text: p.text()}
	case '/':
		return value{kind: nameValue, text: p.name()}
	case '@':
		p.word("@")
		return value{kind: referenceValue, reference: p.whole(4)}
	case '[':
		return value{kind: arrayValue, elements: p.elements()}
	case '<':
		return value{kind: dictionaryValue, keys: p.keys()}
	}
	return value{kind: numberValue, number: p.number()}
}

func (p *parser) number() float64 {
	from := p.at
	if p.peek() == '-' {
		p.at++
	}
	p.some(6, isDigit)
	if p.peek() == '.' {
		p.at++
		p.some(3, isDigit)
	}
	number, _ := strconv.ParseFloat(p.file[from:p.at], 64) // it has this form always
	return number
}

// text takes a string; what it answers still has a sign ahead of each byte that needs one, as it is written again.
func (p *parser) text() string {
	p.word("(")
	from := p.at
	for p.peek() != ')' {
		p.need(p.peek() != '(')
		if p.peek() == '\\' {
			p.at++
			p.need(isEscaped(p.peek()))
		}
		p.at++
	}
	p.word(")")
	return p.file[from : p.at-1]
}

func isEscaped(b byte) bool { return b == '(' || b == ')' || b == '\\' }

func (p *parser) name() string {
	p.word("/")
	return p.some(8, isLetter)
}

// enter notes that an array or a dictionary begins.
func (p *parser) enter() {
	p.open++
	if p.open > maxNest && p.tooDeep == 0 {
		p.tooDeep = p.at
	}
}

func (p *parser) elements() []value {
	p.enter()
	p.word("[")
	var elements []value
	for p.nextSign() != ']' {
		elements = append(elements, p.value())
	}
	p.word("]")
	p.open--
	return elements
}

func (p *parser) keys() map[string]value {
	p.enter()
	p.word("<<")
	keys := map[string]value{}
	for p.nextSign() != '>' {
		place := p.at
		name := p.name()
		if _, stands := keys[name]; stands && p.twice == 0 {
			p.twice = place
		}
		keys[name] = p.value()
	}
	p.word(">>")
	p.open--
	return keys
}
