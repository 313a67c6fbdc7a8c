package clean

import (
	"rungwork/gate"
)

// What is known of a node: it is false in every cycle, or true, or neither is known.
const (
	no = iota
	yes
	open
)

// known is what is known of each node, whatever is given. It is held at first that each Reg stays what it is at first; where its Next is not so, it is open, and so is all that hangs on it. What is left is so in the first cycle, and then in each more.
func known(nodes []gate.Node) []int {
	is := make([]int, len(nodes))
	for i, x := range nodes {
		if is[i] = x.A; x.Op != gate.Reg {
			is[i] = now(x, is)
		}
	}
	read := readers(nodes)
	var doubt func(i int)
	doubt = func(i int) {
		if is[i] == open || now(nodes[i], is) != open {
			return
		}
		is[i] = open
		for _, r := range read[i] {
			doubt(r)
		}
	}
	for i := range nodes {
		doubt(i)
	}
	return is
}

// now is what is known of a node by what is known of those that it reads.
func now(x gate.Node, is []int) int {
	switch x.Op {
	case gate.Zero:
		return no
	case gate.One:
		return yes
	case gate.Reg:
		if is[x.Next] == x.A {
			return x.A
		}
	case gate.Not:
		return turned(is[x.A])
	case gate.And:
		return least(is[x.A], is[x.B])
	case gate.Or:
		return turned(least(turned(is[x.A]), turned(is[x.B])))
	case gate.Xor:
		if is[x.A] != open && is[x.B] != open {
			return is[x.A] ^ is[x.B]
		}
	}
	return open
}

// turned is what is known of a node's Not.
func turned(k int) int {
	if k == open {
		return open
	}
	return yes - k
}

// least is what is known of the And of two.
func least(a, b int) int {
	if a == no || b == no {
		return no
	}
	return max(a, b)
}

// readers are, of each node, those that read it.
func readers(nodes []gate.Node) [][]int {
	read := make([][]int, len(nodes))
	for i, x := range nodes {
		switch x.Op {
		case gate.Reg:
			read[x.Next] = append(read[x.Next], i)
		case gate.Not:
			read[x.A] = append(read[x.A], i)
		case gate.And, gate.Or, gate.Xor:
			read[x.A] = append(read[x.A], i)
			read[x.B] = append(read[x.B], i)
		}
	}
	return read
}
