package ladder

import "strings"

// before is what stands ahead of a coil's NAME.
func before(kind int) string {
	switch kind {
	case Turned:
		return "/"
	case Latch:
		return "S "
	case Unlatch:
		return "R "
	}
	return ""
}

// writeRung writes a rung and a line feed.
func writeRung(b *strings.Builder, r Rung) {
	if !isKind(r.Kind) {
		return
	}
	for _, c := range r.Cells {
		writeCell(b, c)
		b.WriteString(" ")
	}
	b.WriteString("(" + before(r.Kind) + r.Name + ")\n")
}

// writeCells writes cells, with a blank between.
func writeCells(b *strings.Builder, l []Cell) {
	for i, c := range l {
		if i > 0 {
			b.WriteString(" ")
		}
		writeCell(b, c)
	}
}

// writeCell writes a contact, or ways.
func writeCell(b *strings.Builder, c Cell) {
	if len(c.Ways) == 0 {
		if c.Not {
			b.WriteString("/")
		}
		b.WriteString(c.Name)
		return
	}
	b.WriteString("[")
	for i, w := range c.Ways {
		if i > 0 {
			b.WriteString(" | ")
		}
		writeCells(b, w)
	}
	b.WriteString("]")
}
