package rinse

import "strings"

const head = "DOC1\n"

// document is a file, taken apart.
type document struct {
	table
	objects []object  // by their numbers; there is none of the number 0
	charge  func(int) // for what is done with them
}

// readDocument gives up with the first error that a file has by itself, whatever would be written of it.
func readDocument(file string, charge func(int)) *document {
	if len(file) > maxFile {
		refuse(ErrLong, 0)
	}
	if !strings.HasPrefix(file, head) {
		refuse(ErrHead, 0)
	}
	d := &document{table: readTable(file, charge), objects: []object{{}}, charge: charge}
	for i := range d.places {
		d.objects = append(d.objects, readObject(file, d.table, i+1, charge))
	}
	d.refuseOverlaps()
	d.unpackTexts()
	if d.typeOf(d.root) != rootType {
		refuse(ErrRoot, 0)
	}
	return d
}

func (d *document) refuseOverlaps() {
	for number, o := range d.objects {
		for _, lower := range d.objects[:number] {
			d.charge(1)
			if o.place < lower.end && lower.place < o.end {
				refuse(ErrOverlap, number)
			}
		}
	}
}

// unpackTexts puts what it stands for in the place of each stream that is packed.
func (d *document) unpackTexts() {
	for number := range d.objects {
		o := &d.objects[number]
		if o.typeName() == textType && o.keys["F"].isName("Z") {
			o.stream = unpack(o.stream, d.charge, refusal{ErrPacked, number})
		}
	}
}
