package rinse

import "strconv"

// writer is a file on its way.
type writer struct {
	text   []byte
	room   func(int) // gives up when more is written than may be
	charge func(int) // for each byte
}

// write writes what is kept of a document anew.
func write(d *document) string {
	w := writer{room: allowance(maxFile, refusal{errno: ErrBig}), charge: d.charge}
	w.put(head)
	var places []int
	for number, k := range d.reached() {
		places = append(places, len(w.text))
		w.object(number, k)
	}
	w.table(places)
	return string(w.text)
}

func (w *writer) put(texts ...string) {
	for _, text := range texts {
		w.charge(len(text))
		w.room(len(text))
		w.text = append(w.text, text...)
	}
}

func (w *writer) object(number int, k kept) {
	w.put(strconv.Itoa(number), " <</Type/", k.typeName)
	for _, f := range k.fields {
		w.put("/", f.key)
		w.value(f.value)
	}
	w.put(">>")
	if k.typeName == textType {
		w.put("~", strconv.Itoa(len(k.stream)), ":", k.stream)
	}
	w.put(";\n")
}

// value writes one of a kind that is kept: there are no others.
func (w *writer) value(v value) {
	switch v.kind {
	case numberValue:
		w.put(numberText(v.number))
	case stringValue:
		w.put("(", v.text, ")")
	case referenceValue:
		w.put("@", strconv.Itoa(v.reference))
	case arrayValue:
		w.array(v.elements)
	}
}

func (w *writer) array(elements []value) {
	w.put("[")
	for i, element := range elements {
		if i > 0 {
			w.put(" ")
		}
		w.value(element)
	}
	w.put("]")
}

// numberText writes the fewest digits that make the same number: as a number has no more than nine, they are its own, without needless zeros.
func numberText(number float64) string {
	if number == 0 {
		return "0" // of -0 too
	}
	return strconv.FormatFloat(number, 'f', -1, 64)
}

func (w *writer) table(places []int) {
	at := strconv.Itoa(len(w.text))
	w.put("xref ", strconv.Itoa(len(places)), "\n")
	for _, place := range places {
		w.put(strconv.Itoa(place), "\n")
	}
	w.put("root 1\nat ", at, "\nend\n")
}
