package vent

import "math/bits"

// set is tanks or pipes, by their indices: one bit each.
type set uint16

// setOf returns the set of some indices.
func setOf(indices ...int) set {
	var s set
	for _, i := range indices {
		s |= 1 << i
	}
	return s
}

// has reports whether an index is in the set.
func (s set) has(i int) bool { return s>>i&1 == 1 }

// count returns how many indices are in the set.
func (s set) count() int { return bits.OnesCount16(uint16(s)) }

// list returns the indices of the set, ascending.
func (s set) list() []int {
	var l []int
	for s != 0 {
		l = append(l, bits.TrailingZeros16(uint16(s)))
		s &= s - 1
	}
	return l
}
