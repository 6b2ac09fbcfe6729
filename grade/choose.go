package grade

import "orlop/api"

// row is for each k how many ways there are to choose k of some number of things.
type row [api.MaxGrPieces + 1]int

// rows is the row of each number of things.
type rows [api.MaxGrPieces + 1]row

// newRows returns all rows.
func newRows() rows {
	next := row{1}
	step := func() row {
		made := next
		// Of one thing more k are chosen without it, or k less 1 with it.
		for k := range made[1:] {
			next[k+1] += made[k]
		}
		return made
	}
	var all rows
	for n := range all {
		all[n] = step()
	}
	return all
}
