package waste_test

import (
	"slices"
	"strings"
	"testing"

	"orlop/api"
)

// partOf is a part and an index, or nothing with no error.
func partOf(part, at int, e api.Errno) (int, int) {
	if e == api.OK {
		return 0, 0
	}
	return part, at
}

// sized is a yard with so many kinds, places, papers and counts. Counts have different kinds or places as long as there are enough.
func sized(kinds, places, papers, first, last int) api.WaYard {
	y := bare(kinds, places)
	for range papers {
		y.Papers = append(y.Papers, paper(0, 0, out, 1, -1))
	}
	spot := func(i int) api.WaCount { return count(i%max(1, kinds), i/max(1, kinds), 0, 9) }
	for i := range first {
		y.First = append(y.First, spot(i))
	}
	for i := range last {
		y.Last = append(y.Last, spot(i))
	}
	return y
}

// TestCheckSizes is P9.1: how many kinds, places, papers and counts there are.
func TestCheckSizes(t *testing.T) {
	for i, c := range []struct {
		kinds, places, papers, first, last int
		e                                  api.Errno
	}{
		{1, 1, 0, 0, 0, api.OK},
		{4, 4, 0, 0, 0, api.OK},
		{4, 4, 10, 8, 8, api.OK},
		{4, 2, 10, 8, 0, api.OK},
		{2, 4, 0, 0, 8, api.OK},
		{0, 1, 0, 0, 0, api.ErrLong},
		{1, 0, 0, 0, 0, api.ErrLong},
		{0, 0, 0, 0, 0, api.ErrLong},
		{0, 1, 1, 1, 1, api.ErrLong},
		{5, 4, 0, 0, 0, api.ErrLong},
		{4, 5, 0, 0, 0, api.ErrLong},
		{4, 4, 11, 0, 0, api.ErrLong},
		{4, 4, 0, 9, 0, api.ErrLong},
		{4, 4, 0, 0, 9, api.ErrLong},
		{1, 1, 11, 0, 0, api.ErrLong},
		{1, 1, 0, 9, 0, api.ErrLong},
		{1, 1, 0, 0, 9, api.ErrLong},
		{5, 1, 10, 8, 8, api.ErrLong},
		{1, 5, 10, 8, 8, api.ErrLong},
		{100, 100, 100, 100, 100, api.ErrLong},
		{1, 1, 100000, 0, 0, api.ErrLong},
		{4, 4, 0, 100000, 0, api.ErrLong},
		{4, 4, 0, 0, 100000, api.ErrLong},
		{260, 1, 0, 0, 0, api.ErrLong},
		{1, 257, 0, 0, 0, api.ErrLong},
	} {
		y := sized(c.kinds, c.places, c.papers, c.first, c.last)
		part, at := partOf(1, 0, c.e)
		if c.e == api.OK || len(y.Papers)+len(y.First)+len(y.Last) < 100 {
			checks(t, i, y, part, at, c.e)
		}
		if c.e != api.OK {
			allErrors(t, i, y, nil, 0, 0, c.e)
			allErrors(t, i, y, ints(-1), 99, 99, c.e)
		}
	}
	if api.MaxWaKinds != 4 || api.MaxWaPlaces != 4 || api.MaxWaPapers != 10 || api.MaxWaCounts != 8 || api.MaxWaKilos != 1000000 || api.MaxWaText != 4000 || api.WaOutside != -1 {
		t.Error("the limits are not those of the chapter")
	}
	checks(t, "no yard at all", api.WaYard{}, 1, 0, api.ErrLong)
	y := bare(1, 1)
	y.First, y.Papers, y.Last = counts(), papers(), counts()
	checks(t, "empty lists", y, 0, 0, api.OK)
	y.Kinds = []string{}
	checks(t, "an empty list of kinds", y, 1, 0, api.ErrLong)
}

// TestCheckNames is P9.1: the names of kinds and places, of which the first one with an error counts.
func TestCheckNames(t *testing.T) {
	long := strings.Repeat("z", 16)
	for i, c := range []struct {
		names []string
		at    int
		e     api.Errno
	}{
		{[]string{"a"}, 0, api.OK},
		{[]string{""}, 0, api.ErrForm},
		{[]string{"-"}, 0, api.ErrForm},
		{[]string{"A"}, 0, api.ErrForm},
		{[]string{"1a"}, 0, api.ErrForm},
		{[]string{"a1"}, 0, api.OK},
		{[]string{"a b"}, 0, api.ErrForm},
		{[]string{"a-"}, 0, api.ErrForm},
		{[]string{"a\x00"}, 0, api.ErrForm},
		{[]string{"a\n"}, 0, api.ErrForm},
		{[]string{"ä"}, 0, api.ErrForm},
		{[]string{"\xff"}, 0, api.ErrForm},
		{[]string{long}, 0, api.OK},
		{[]string{long + "z"}, 0, api.ErrForm},
		{[]string{strings.Repeat("z", 1<<20)}, 0, api.ErrForm},
		{[]string{"a", "a"}, 1, api.ErrTwice},
		{[]string{"a", "b", "a"}, 2, api.ErrTwice},
		{[]string{"a", "b", "c", "a"}, 3, api.ErrTwice},
		{[]string{"a", "b", "c", "b"}, 3, api.ErrTwice},
		{[]string{"a", "b", "b", "a"}, 2, api.ErrTwice},
		{[]string{"kinds", "places", "first", "last"}, 0, api.OK},
		{[]string{"", ""}, 0, api.ErrForm},
		{[]string{"a", "", ""}, 1, api.ErrForm},
		{[]string{"a", "a", ""}, 1, api.ErrTwice},
		{[]string{"a", "", "a"}, 1, api.ErrForm},
		{[]string{"a", "b", "c", "?"}, 3, api.ErrForm},
	} {
		y := bare(1, 1)
		y.Kinds = c.names
		part, at := partOf(2, c.at, c.e)
		checks(t, i, y, part, at, c.e)
		z := bare(1, 1)
		z.Places = c.names
		part, at = partOf(3, c.at, c.e)
		checks(t, i, z, part, at, c.e)
		if c.e != api.OK {
			allErrors(t, i, y, ints(7), 7, 7, c.e)
			allErrors(t, i, z, ints(7), 7, 7, c.e)
		}
	}
	y := bare(4, 4)
	y.Places = slices.Clone(y.Kinds)
	checks(t, "kinds and places with the same names", y, 0, 0, api.OK)
}

// TestCheckCounts is P9.1: the counts of First and of Last, of which the first one with an error counts.
func TestCheckCounts(t *testing.T) {
	const most = 1000000
	type row struct {
		l  []api.WaCount
		at int
		e  api.Errno
	}
	rows := []row{
		{counts(count(0, 0, 0, 0)), 0, api.OK},
		{counts(count(1, 2, 0, most)), 0, api.OK},
		{counts(count(1, 2, most, most)), 0, api.OK},
		{counts(count(0, 0, 0, 0), count(0, 1, 0, 0), count(1, 0, 0, 0), count(1, 1, 0, 0), count(0, 2, 1, 1), count(1, 2, 1, 1)), 0, api.OK},
		{counts(count(2, 0, 0, 0)), 0, api.ErrNone},
		{counts(count(-1, 0, 0, 0)), 0, api.ErrNone},
		{counts(count(0, 3, 0, 0)), 0, api.ErrNone},
		{counts(count(0, -1, 0, 0)), 0, api.ErrNone}, // there are no counts outside
		{counts(count(0, 0, -1, 0)), 0, api.ErrRange},
		{counts(count(0, 0, 0, -1)), 0, api.ErrRange},
		{counts(count(0, 0, 0, most+1)), 0, api.ErrRange},
		{counts(count(0, 0, most+1, most)), 0, api.ErrRange},
		{counts(count(0, 0, most+1, most+1)), 0, api.ErrRange},
		{counts(count(0, 0, 1, 0)), 0, api.ErrArg},
		{counts(count(0, 0, most, most-1)), 0, api.ErrArg},
		{counts(count(0, 0, most, 0)), 0, api.ErrArg},
		{counts(count(1, 2, 0, 0), count(1, 2, 0, 0)), 1, api.ErrTwice},
		{counts(count(1, 2, 0, 0), count(1, 2, 3, 4)), 1, api.ErrTwice},
		{counts(count(1, 2, 0, 0), count(0, 2, 0, 0), count(1, 1, 0, 0), count(1, 2, 0, 0)), 3, api.ErrTwice},
		{counts(count(0, 1, 0, 0), count(1, 0, 0, 0)), 0, api.OK},
		// Two errors at once.
		{counts(count(2, 0, 0, 0), count(2, 0, 0, 0)), 0, api.ErrNone},
		{counts(count(0, 0, 0, 0), count(2, 0, 5, 4), count(0, 0, 0, 0)), 1, api.ErrNone},
		{counts(count(0, 3, 5, 4)), 0, api.ErrNone},
		{counts(count(2, 3, -1, 4)), 0, api.ErrNone},
		{counts(count(0, 0, 0, 0), count(0, 0, -1, 0)), 1, api.ErrTwice},
		{counts(count(0, 0, 0, 0), count(0, 0, 1, 0)), 1, api.ErrTwice},
		{counts(count(0, 0, 5, -1)), 0, api.ErrRange},
		{counts(count(0, 0, most+5, 4)), 0, api.ErrRange},
		{counts(count(0, 0, 0, 0), count(0, 1, 1, 0), count(0, 0, 0, 0)), 1, api.ErrArg},
		{counts(count(0, 0, 0, 0), count(0, 0, 0, 0), count(0, 3, 0, 0)), 1, api.ErrTwice},
		{counts(count(0, 0, 2, 1), count(0, 0, 0, 0), count(0, 3, 0, 0)), 0, api.ErrArg},
	}
	for _, n := range far() {
		rows = append(rows,
			row{counts(count(n, 0, 0, 0)), 0, api.ErrNone},
			row{counts(count(0, n, 0, 0)), 0, api.ErrNone},
			row{counts(count(n, n, n, n), count(n, n, n, n)), 0, api.ErrNone},
			row{counts(count(0, 0, 0, 0), count(0, 1, n, 0)), 1, api.ErrRange},
			row{counts(count(0, 0, 0, 0), count(0, 1, 0, n)), 1, api.ErrRange},
			row{counts(count(0, 0, n, n)), 0, api.ErrRange})
	}
	for i, c := range rows {
		y := bare(2, 3)
		y.First = c.l
		part, at := partOf(4, c.at, c.e)
		checks(t, i, y, part, at, c.e)
		z := bare(2, 3)
		z.Last = c.l
		part, at = partOf(6, c.at, c.e)
		checks(t, i, z, part, at, c.e)
		y.Last = c.l
		if c.e == api.OK {
			checks(t, i, y, 0, 0, api.OK) // once in each list
			continue
		}
		allErrors(t, i, y, ints(0), 0, 0, c.e)
		allErrors(t, i, z, ints(0), 0, 0, c.e)
	}
}

// TestCheckPapers is P9.1: papers, of which the first one with an error counts.
func TestCheckPapers(t *testing.T) {
	const most = 1000000
	type row struct {
		l  []api.WaPaper
		at int
		e  api.Errno
	}
	good := paper(0, 0, 1, 5, -1)
	rows := []row{
		{papers(good), 0, api.OK},
		{papers(paper(1, 2, out, 0, -1)), 0, api.OK},
		{papers(paper(1, out, 2, most, -1)), 0, api.OK},
		{papers(paper(2, 0, 1, 5, -1)), 0, api.ErrNone},
		{papers(paper(-1, 0, 1, 5, -1)), 0, api.ErrNone},
		{papers(paper(0, 3, 1, 5, -1)), 0, api.ErrNone},
		{papers(paper(0, 0, 3, 5, -1)), 0, api.ErrNone},
		{papers(paper(0, -2, 1, 5, -1)), 0, api.ErrNone},
		{papers(paper(0, 0, -2, 5, -1)), 0, api.ErrNone},
		{papers(paper(0, 0, 0, 5, -1)), 0, api.ErrArg},
		{papers(paper(0, 2, 2, 5, -1)), 0, api.ErrArg},
		{papers(paper(0, out, out, 5, -1)), 0, api.ErrArg},
		{papers(paper(0, 0, 1, -1, -1)), 0, api.ErrRange},
		{papers(paper(0, 0, 1, most+1, -1)), 0, api.ErrRange},
		{papers(good, good, good), 0, api.OK},
		// Copies.
		{papers(paper(0, 0, 1, 5, 1), paper(0, 0, 1, 6, 0)), 0, api.OK},
		{papers(paper(0, 0, 1, 5, 2), good, paper(0, 0, 1, 5, 0)), 0, api.OK},
		{papers(paper(0, 0, 1, 5, 2), paper(1, 0, 1, 5, 3), paper(0, 0, 1, 5, 0), paper(1, 0, 1, 7, 1)), 0, api.OK},
		{papers(paper(0, 0, 1, 5, 0)), 0, api.ErrDown}, // its own index
		{papers(good, paper(0, 0, 1, 5, 1)), 1, api.ErrDown},
		{papers(paper(0, 0, 1, 5, 1)), 0, api.ErrDown}, // beyond
		{papers(paper(0, 0, 1, 5, -2)), 0, api.ErrDown},
		{papers(paper(0, 0, 1, 5, 1), good), 0, api.ErrDown},                                       // not told back
		{papers(good, paper(0, 0, 1, 5, 0)), 1, api.ErrDown},                                       // not told back
		{papers(paper(0, 0, 1, 5, 1), paper(0, 0, 1, 5, 2), paper(0, 0, 1, 5, 0)), 0, api.ErrDown}, // round in a ring
		{papers(paper(0, 0, 1, 5, 1), paper(0, 0, 1, 5, 0), paper(0, 0, 1, 5, 0)), 2, api.ErrDown}, // a third one
		{papers(paper(0, 0, 1, 5, 1), paper(0, 0, 1, 5, 1)), 0, api.ErrDown},                       // told its own
		{papers(paper(0, 0, 1, 5, 1), paper(1, 0, 1, 5, 0)), 0, api.ErrDown},                       // of another kind
		{papers(paper(0, 0, 1, 5, 1), paper(0, 2, 1, 5, 0)), 0, api.ErrDown},                       // from elsewhere
		{papers(paper(0, 0, 1, 5, 1), paper(0, 0, 2, 5, 0)), 0, api.ErrDown},                       // to elsewhere
		{papers(paper(0, 0, 1, 5, 1), paper(0, 1, 0, 5, 0)), 0, api.ErrDown},                       // back
		{papers(paper(0, 0, 1, 5, 1), paper(0, 0, out, 5, 0)), 0, api.ErrDown},                     // outside
		{papers(good, good, paper(0, 0, 1, 5, 3), paper(0, 0, 1, 5, 2), paper(0, 0, 1, 5, 2)), 4, api.ErrDown},
		{papers(paper(0, 0, 1, 5, 1), paper(0, 0, 1, most+1, 0)), 1, api.ErrRange}, // the first one is as stated
		{papers(paper(0, 0, 1, 5, 1), paper(0, 0, 1, -1, 0)), 1, api.ErrRange},
		// Two errors at once.
		{papers(paper(2, 0, 0, 5, -1)), 0, api.ErrNone},
		{papers(paper(0, 3, 3, 5, -1)), 0, api.ErrNone},
		{papers(paper(0, -2, -2, 5, -1)), 0, api.ErrNone},
		{papers(paper(0, 3, 1, -5, 7)), 0, api.ErrNone},
		{papers(paper(2, 0, 1, most+1, 0)), 0, api.ErrNone},
		{papers(paper(0, 1, 1, -5, -1)), 0, api.ErrArg},
		{papers(paper(0, out, out, 5, 0)), 0, api.ErrArg},
		{papers(paper(0, 0, 1, -5, 0)), 0, api.ErrRange},
		{papers(paper(0, 0, 1, most+1, 9)), 0, api.ErrRange},
		{papers(good, paper(0, 0, 1, 5, 7), paper(5, 0, 1, 5, -1)), 1, api.ErrDown},
		{papers(good, paper(0, 0, 1, -1, -1), paper(5, 0, 1, 5, -1)), 1, api.ErrRange},
		{papers(good, good, paper(0, 1, 1, 5, -1), paper(5, 0, 1, 5, -1)), 2, api.ErrArg},
	}
	for _, n := range far() {
		rows = append(rows,
			row{papers(paper(n, 0, 1, 5, -1)), 0, api.ErrNone},
			row{papers(paper(0, n, 1, 5, -1)), 0, api.ErrNone},
			row{papers(paper(0, 0, n, 5, -1)), 0, api.ErrNone},
			row{papers(paper(0, n, n, n, n)), 0, api.ErrNone},
			row{papers(good, paper(0, 0, 1, n, -1)), 1, api.ErrRange},
			row{papers(good, paper(0, 0, 1, n, n)), 1, api.ErrRange},
			row{papers(good, paper(0, 0, 1, 5, n)), 1, api.ErrDown})
	}
	for i, c := range rows {
		y := bare(2, 3)
		y.Papers = c.l
		part, at := partOf(5, c.at, c.e)
		checks(t, i, y, part, at, c.e)
		if c.e != api.OK {
			allErrors(t, i, y, ints(0), 0, 0, c.e)
			allErrors(t, i, y, ints(9, 9), 99, -1, c.e)
		}
	}
	for other := range 12 {
		y := sized(1, 1, 10, 0, 0)
		y.Papers[3].Copy = other
		checks(t, other, y, 5, 3, api.ErrDown)
		if other < 10 && other != 3 {
			y.Papers[other].Copy = 3
			checks(t, other, y, 0, 0, api.OK)
		}
	}
}

// TestCheckOrder is P9.1 and R1: all of one part comes before the next one.
func TestCheckOrder(t *testing.T) {
	y := bare(2, 2)
	y.Last = counts(count(0, 0, 0, 1), count(0, 0, 2, 1))
	checks(t, "Last", y, 6, 1, api.ErrTwice)
	y.Papers = papers(paper(0, 0, 1, 5, -1), paper(0, 0, 1, 5, -1), paper(0, 0, 1, 5, 9))
	checks(t, "papers before Last", y, 5, 2, api.ErrDown)
	y.First = counts(count(0, 0, 2, 1))
	checks(t, "First before papers", y, 4, 0, api.ErrArg)
	y.Places[1] = "p0"
	checks(t, "places before First", y, 3, 1, api.ErrTwice)
	y.Kinds[0] = "?"
	checks(t, "kinds before places", y, 2, 0, api.ErrForm)
	y.Last = make([]api.WaCount, 9)
	checks(t, "sizes before kinds", y, 1, 0, api.ErrLong)
	y.Last = nil
	y.Kinds = nil
	checks(t, "no kinds", y, 1, 0, api.ErrLong)
}

// TestErrorOfWrong is the error of papers that are false: the first number with one.
func TestErrorOfWrong(t *testing.T) {
	y := yard(1, counts(count(0, 0, 9, 9)), papers(paper(0, 0, out, 1, -1), paper(0, 0, out, 1, -1), paper(0, 0, out, 1, -1), paper(0, 0, out, 1, -1)), nil)
	open := copyOf(y)
	open.Last = counts(count(0, 0, 11, 11))
	type row struct {
		wrong []int
		e     api.Errno
	}
	rows := []row{
		{nil, api.OK},
		{ints(), api.OK},
		{ints(0), api.OK},
		{ints(3), api.OK},
		{ints(0, 1, 2, 3), api.OK},
		{ints(1, 3), api.OK},
		{ints(4), api.ErrNone},
		{ints(-1), api.ErrNone},
		{ints(0, 4), api.ErrNone},
		{ints(0, 0), api.ErrArg},
		{ints(3, 3), api.ErrArg},
		{ints(1, 0), api.ErrArg},
		{ints(0, 2, 1), api.ErrArg},
		{ints(0, 1, 2, 3, 0), api.ErrArg},
		{ints(0, 3, 2, 3), api.ErrArg},
		// Two errors at once.
		{ints(2, -1), api.ErrNone},
		{ints(1, 1, 4), api.ErrArg},
		{ints(1, 4, 1), api.ErrNone},
		{ints(4, 1, 1), api.ErrNone},
		{ints(4, 4), api.ErrNone},
		{ints(2, 1, -1), api.ErrArg},
		{slices.Repeat(ints(0), 100000), api.ErrArg},
	}
	for _, n := range far() {
		rows = append(rows, row{ints(n), api.ErrNone}, row{ints(0, n), api.ErrNone}, row{ints(n, 0), api.ErrNone}, row{ints(n, n), api.ErrNone}, row{ints(1, 1, n), api.ErrArg})
	}
	for i, c := range rows {
		if c.e == api.OK {
			closesIs(t, i, y, c.wrong, true, api.OK)
			whyIs(t, i, y, c.wrong, api.WaProof{}, api.ErrNone)
			closesIs(t, i, open, c.wrong, false, api.OK)
			continue
		}
		for _, n := range append(far(), 0, 1, -1) {
			wrongErrors(t, i, y, c.wrong, n, n, c.e)
			wrongErrors(t, i, open, c.wrong, n, n, c.e)
		}
	}
	for _, n := range ints(0, 1, 10) {
		wrongErrors(t, n, bare(1, 1), ints(n), 0, 0, api.ErrNone)
	}
	full := sized(1, 1, 10, 0, 0)
	wrongErrors(t, "the tenth", full, ints(10), 0, 0, api.ErrNone)
	closesIs(t, "the ninth", full, ints(0, 1, 2, 3, 4, 5, 6, 7, 8, 9), true, api.OK)
}
