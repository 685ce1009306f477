package rinse

import (
	"iter"
	"slices"
)

// The types of objects, by their names; one of no type has none.
const (
	rootType = "Root"
	pageType = "Page"
	textType = "Text"
)

func (o object) typeName() string {
	name := o.keys["Type"]
	for _, known := range []string{rootType, pageType, textType} {
		if name.isName(known) && o.hasStream == (known == textType) {
			return known
		}
	}
	return ""
}

// typeOf tells the type of the object that a reference names: none, if there is no such object.
func (d *document) typeOf(number int) string {
	if number >= len(d.objects) {
		return ""
	}
	return d.objects[number].typeName()
}

// rule is a key that may be kept: right tells whether what it has is right, and what is kept of that.
type rule struct {
	key   string
	right func(value) (value, bool)
}

// rules are those of a type, in the order in which they are written.
func (d *document) rules(typeName string) []rule {
	switch typeName {
	case rootType:
		return []rule{{"Kids", d.kids}, {"Title", title}}
	case pageType:
		return []rule{{"Box", box}, {"Next", d.referenceTo(pageType)}, {"Text", d.referenceTo(textType)}}
	}
	return nil
}

func (d *document) referenceTo(typeName string) func(value) (value, bool) {
	return func(v value) (value, bool) {
		d.charge(1)
		return v, v.kind == referenceValue && d.typeOf(v.reference) == typeName
	}
}

func (d *document) kids(v value) (value, bool) {
	pages := value{kind: arrayValue}
	right := d.referenceTo(pageType)
	for _, element := range v.elements {
		if kid, ok := right(element); ok {
			pages.elements = append(pages.elements, kid)
		}
	}
	return pages, v.kind == arrayValue
}

func title(v value) (value, bool) { return v, v.kind == stringValue }

func box(v value) (value, bool) {
	isNoNumber := func(v value) bool { return v.kind != numberValue }
	return v, len(v.elements) == 4 && !slices.ContainsFunc(v.elements, isNoNumber)
}

// kept is what is kept of an object.
type kept struct {
	typeName string
	fields   []field
	stream   string
}

// field is a key that is kept, and what it has.
type field struct {
	key   string
	value value
}

// reached hands out what is kept, by the new numbers, by which also its references go. A reference gives a number to what has none yet, so an object must be asked for what is kept of it before those behind it are.
func (d *document) reached() iter.Seq2[int, kept] {
	return func(yield func(int, kept) bool) {
		olds := []int{d.root}
		news := map[int]int{d.root: 1}
		newNumber := func(old int) int {
			d.charge(1)
			if _, known := news[old]; !known {
				olds = append(olds, old)
				news[old] = len(olds)
			}
			return news[old]
		}
		for i := 0; i < len(olds); i++ {
			if !yield(i+1, d.keep(d.objects[olds[i]], newNumber)) {
				return
			}
		}
	}
}

func (d *document) keep(o object, newNumber func(int) int) kept {
	k := kept{typeName: o.typeName(), stream: o.stream}
	for _, r := range d.rules(k.typeName) {
		if v, ok := r.right(o.keys[r.key]); ok {
			k.fields = append(k.fields, field{r.key, renumbered(v, newNumber)})
		}
	}
	return k
}

// renumbered leaves the value that it is given as it is: the object still has it.
func renumbered(v value, newNumber func(int) int) value {
	if v.kind == referenceValue {
		v.reference = newNumber(v.reference)
	}
	v.elements = slices.Clone(v.elements)
	for i, element := range v.elements {
		v.elements[i] = renumbered(element, newNumber)
	}
	return v
}
