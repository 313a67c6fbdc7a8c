package blast

import (
	"rungwork/api"
	"rungwork/value"
)

// number are the nodes of a number's bits.
func (m *maker) number(kind, n int) []int {
	var bits []int
	for _, b := range value.Bits(kind, n) {
		if b {
			bits = append(bits, m.one())
		} else {
			bits = append(bits, m.zero())
		}
	}
	return bits
}

// two is what a mark makes of two of one type.
func (m *maker) two(op string, a, b []int) []int {
	switch op {
	case "and":
		return pairs(a, b, m.and)
	case "or":
		return pairs(a, b, m.or)
	case "xor":
		return pairs(a, b, m.xor)
	case "=":
		return []int{m.not(m.differ(a, b))}
	case "<>":
		return []int{m.differ(a, b)}
	case "<":
		return []int{m.less(a, b)}
	case "<=":
		return []int{m.not(m.less(b, a))}
	case ">":
		return []int{m.less(b, a)}
	case ">=":
		return []int{m.not(m.less(a, b))}
	case "+":
		return m.sum(a, b, m.zero())
	case "-":
		return m.sum(a, m.turned(b), m.one())
	}
	return nil
}

// pairs is what a gate makes of two, bit by bit.
func pairs(a, b []int, op func(a, b int) int) []int {
	bits := make([]int, len(a))
	for i := range bits {
		bits[i] = op(a[i], b[i])
	}
	return bits
}

// turned is each bit the other one.
func (m *maker) turned(a []int) []int {
	bits := make([]int, len(a))
	for i := range bits {
		bits[i] = m.not(a[i])
	}
	return bits
}

// only is what it is when a node is true, else 0.
func (m *maker) only(when int, a []int) []int {
	bits := make([]int, len(a))
	for i := range bits {
		bits[i] = m.and(when, a[i])
	}
	return bits
}

// choose is a when a node is true, else b.
func (m *maker) choose(when int, a, b []int) []int {
	bits := make([]int, len(a))
	for i := range bits {
		if bits[i] = a[i]; a[i] != b[i] {
			bits[i] = m.or(m.and(when, a[i]), m.and(m.not(when), b[i]))
		}
	}
	return bits
}

// differ is whether two differ in any bit.
func (m *maker) differ(a, b []int) int {
	some := m.zero()
	for _, x := range pairs(a, b, m.xor) {
		some = m.or(some, x)
	}
	return some
}

// less is whether a is less than b: from the least bit on, what the bit below told stands, unless these two differ.
func (m *maker) less(a, b []int) int {
	less := m.zero()
	for i := range a {
		not := m.not(a[i])
		less = m.or(m.and(not, b[i]), m.and(m.or(not, b[i]), less))
	}
	return less
}

// sum is a and b, and one more when carry is true, as far as there are bits; what the last ones carry is lost, and no gate is made for it.
func (m *maker) sum(a, b []int, carry int) []int {
	bits := make([]int, len(a))
	for i := range bits {
		one := m.xor(a[i], b[i])
		bits[i] = m.xor(one, carry)
		if i+1 < len(bits) {
			carry = m.or(m.and(a[i], b[i]), m.and(one, carry))
		}
	}
	return bits
}

// more is a byte, and one more when a node is true.
func (m *maker) more(a []int, when int) []int {
	return m.sum(a, m.number(api.Byte, 0), when)
}
