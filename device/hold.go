package device

import (
	"strings"

	"rungwork/api"
)

// What a register is, as a letter.
const (
	no  = '0'
	yes = '1'
)

// Save is what the device holds: a letter a register, 0 or 1.
func (d *Device) Save() (_ string) {
	if d == nil {
		return "" // New made it so, beside an error
	}
	var b strings.Builder
	for _, held := range d.net.Regs() {
		b.WriteRune(letter(held))
	}
	return b.String()
}

// Load lets the device hold what Save told. ErrForm: other letters; ErrArg: not as many.
func (d *Device) Load(s string) (_ error) {
	l, ok := read(s)
	if !ok {
		return api.ErrForm
	}
	if d == nil {
		return api.ErrArg // New made it so, beside an error
	}
	return d.net.Put(l)
}

// letter is what a register is, as a letter.
func letter(held bool) rune {
	if held {
		return yes
	}
	return no
}

// read is what registers are by their letters, if there are no others. What is no rune at all is another letter, too.
func read(s string) (l []bool, ok bool) {
	for _, r := range s {
		if r != no && r != yes {
			return nil, false
		}
		l = append(l, r == yes)
	}
	return l, true
}
