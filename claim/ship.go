package claim

import (
	"cmp"
	"iter"
	"slices"

	"orlop/api"
	"orlop/bitset"
)

// truths yields the forged papers of all truths of a ship without an error, and who is the owner on a day then. Fewer papers come before more, and as many as they are compared.
func truths(s api.ClShip, day int) iter.Seq2[bitset.Set, string] {
	owner := follow(s, day)
	return func(yield func(bitset.Set, string) bool) {
		for forged := range bitset.Lists(len(s.Papers)) {
			if forged.Count() > s.Forged || !yield(forged, owner(forged)) {
				return
			}
		}
	}
}

// follow returns a function that tells the owner of a ship on a day, if some papers are forged.
func follow(s api.ClShip, day int) func(forged bitset.Set) string {
	papers := until(day, s.Papers)
	return func(forged bitset.Set) string {
		owner := s.First
		for _, i := range papers {
			if p := s.Papers[i]; p.From == owner && !forged.Has(i) {
				owner = p.To
			}
		}
		return owner
	}
}

// until returns the indices of the papers up to a day, by their days; those of one day stay in their order.
func until(day int, papers []api.ClPaper) (l []int) {
	for i, p := range papers {
		if p.Day <= day {
			l = append(l, i)
		}
	}
	slices.SortStableFunc(l, func(a, b int) int { return cmp.Compare(papers[a].Day, papers[b].Day) })
	return l
}
