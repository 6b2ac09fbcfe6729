package block

import (
	"iter"

	"orlop/api"
	"orlop/bitset"
	"orlop/limits"
)

// cut is the blocks of a cut, each at its number; behind the last one there are empty sets.
type cut [api.MaxBlParts]bitset.Set

// cutOf returns the cut that has a number for each part; false if it is none.
func cutOf(numbers []int) (c cut, is bool) {
	blocks := 0
	for part, n := range numbers {
		if !limits.Within(0, blocks, n) {
			return cut{}, false
		}
		c[n] |= bitset.Of(part)
		blocks = max(blocks, n+1)
	}
	return c, true
}

// numbers returns the number of each part.
func (c cut) numbers(parts int) []int {
	l := make([]int, parts)
	for n, block := range c {
		for part := range block.All() {
			l[part] = n
		}
	}
	return l
}

// cuts yields all cuts of so many parts into at most so many blocks, in the order in which they are compared.
func cuts(parts, blocks int) iter.Seq[cut] {
	return func(yield func(cut) bool) {
		var c cut
		var place func(part, used int) bool
		place = func(part, used int) bool {
			if part == parts {
				return yield(c)
			}
			for n := range min(used+1, blocks) {
				c[n] |= bitset.Of(part)
				if !place(part+1, max(used, n+1)) {
					return false
				}
				c[n] = c[n].Without(part)
			}
			return true
		}
		place(0, 0)
	}
}
