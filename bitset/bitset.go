// Package bitset keeps sets of indices as bits. It is no layer: all layers may call it.
package bitset

import (
	"iter"
	"math/bits"
	"slices"
)

// Set is a set of indices from 0 to 15: the index i is in it if its bit i is 1.
type Set uint16

// Of returns the set of some indices.
func Of(indices ...int) Set {
	var s Set
	for _, i := range indices {
		s |= 1 << i
	}
	return s
}

// Below returns the set of all indices below a number, which is at most 16.
func Below(n int) Set { return Set(1)<<n - 1 }

// Has reports whether an index is in the set.
func (s Set) Has(i int) bool { return s>>i&1 == 1 }

// Without returns the set without an index.
func (s Set) Without(i int) Set { return s &^ Of(i) }

// Count returns how many indices are in the set.
func (s Set) Count() int { return bits.OnesCount16(uint16(s)) }

// All yields the indices of the set, ascending.
func (s Set) All() iter.Seq[int] {
	return func(yield func(int) bool) {
		for rest := s; rest != 0; rest &= rest - 1 {
			if !yield(bits.TrailingZeros16(uint16(rest))) {
				return
			}
		}
	}
}

// List returns the indices of the set, ascending.
func (s Set) List() []int { return slices.Collect(s.All()) }

// Lists yields all sets of indices below a number, which is at most 16: smaller ones before larger ones, and those of one size as their lists are compared, number by number.
func Lists(n int) iter.Seq[Set] {
	return func(yield func(Set) bool) {
		var add func(list Set, from, more int) bool
		add = func(list Set, from, more int) bool {
			if more == 0 {
				return yield(list)
			}
			for i := from; i < n; i++ {
				if !add(list|Of(i), i+1, more-1) {
					return false
				}
			}
			return true
		}
		for size := range n + 1 {
			if !add(0, 0, size) {
				return
			}
		}
	}
}
