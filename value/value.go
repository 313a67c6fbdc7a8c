// Package value: bits and bytes.
package value

import (
	"rungwork/api"
)

// mostBits is how many bits Of reads: so few that none is ever the sign.
const mostBits = 62

// Width is how many bits a type has (0: it is no type of values).
func Width(kind int) (_ int) {
	switch kind {
	case api.Bool:
		return 1
	case api.Byte:
		return 8
	}
	return 0
}

// Cut is a number's last bits, as many as a type has.
func Cut(kind, n int) (_ int) {
	// Below 0 the machine's own bits are those of 2^64 more, so a mask does for all numbers.
	return n & (1<<Width(kind) - 1)
}

// Bits are a number's bits, the least first.
func Bits(kind, n int) (_ []bool) {
	var l []bool
	for i := range Width(kind) {
		l = append(l, n>>i&1 == 1)
	}
	return l
}

// Of is the number of bits.
func Of(l []bool) (_ int) {
	n := 0
	for i := range min(len(l), mostBits) {
		n |= bit(l[i]) << i
	}
	return n
}

// Result is of which type a mark of two is, of two of types; 0: it may not be.
func Result(op string, a, b int) (_ int) {
	if a != b || Width(a) == 0 {
		return 0
	}
	switch op {
	case "and", "or", "xor":
		return a
	case "=", "<>":
		return api.Bool
	}
	if a == api.Byte {
		return ofBytes(op)
	}
	return 0
}

// ofBytes is of which type a mark is that only bytes have (0: there is none such).
func ofBytes(op string) int {
	switch op {
	case "<", "<=", ">", ">=":
		return api.Bool
	case "+", "-":
		return api.Byte
	}
	return 0
}

// Two is what a mark of two comes to, of two numbers of a type (0: it may not be).
func Two(op string, kind, a, b int) (_ int) {
	if Result(op, kind, kind) == 0 {
		return 0
	}
	a, b = Cut(kind, a), Cut(kind, b)
	switch op {
	case "and":
		return a & b
	case "or":
		return a | b
	case "xor":
		return a ^ b
	case "+":
		return Cut(kind, a+b)
	case "-":
		return Cut(kind, a-b)
	}
	return bit(holds(op, a, b))
}

// holds says whether what compares is so.
func holds(op string, a, b int) bool {
	switch op {
	case "=":
		return a == b
	case "<>":
		return a != b
	case "<":
		return a < b
	case "<=":
		return a <= b
	case ">":
		return a > b
	case ">=":
		return a >= b
	}
	return false
}

// bit is 1 of true, 0 of false.
func bit(b bool) int {
	if b {
		return 1
	}
	return 0
}

// Not is a number of a type, each bit the other one.
func Not(kind, n int) (_ int) {
	return Cut(kind, ^n)
}
