package waste_test

import (
	"testing"

	"orlop/api"
)

const textZ = "kinds oil paint\n" +
	"places yard pit\n" +
	"first oil yard 1000 1000\n" +
	"paper oil yard pit 600 1\n" +
	"paper oil yard pit 500 0\n" +
	"paper oil yard - 300 -\n" +
	"last oil yard 100 200\n"

// TestExamples is the chapter's section Examples.
func TestExamples(t *testing.T) {
	y, z := sampleY(), sampleZ()
	closesIs(t, "Y", y, nil, false, api.OK)
	closesIs(t, "Y", y, ints(1), true, api.OK)
	closesIs(t, "Y", y, ints(0), false, api.OK)
	whyIs(t, "Y", y, nil, differs(0), api.OK)
	whyIs(t, "Y", y, ints(0), sums(0, 1, 100), api.OK)
	whyIs(t, "Y", y, ints(1), api.WaProof{}, api.ErrNone)
	short := sampleY()
	short.Last[1].Kilos = span(700, 700)
	whyIs(t, "700 in the pit", short, ints(1, 2), sums(0, 2, -100), api.OK)
	fewestIs(t, "Y", y, ints(1), api.OK)
	mustIs(t, "Y", y, ints(1), api.OK)
	mayIs(t, "Y", y, ints(1), api.OK)
	fewestIs(t, "Z", z, ints(0), api.OK)
	mustIs(t, "Z", z, nil, api.OK)
	mayIs(t, "Z", z, ints(0, 1), api.OK)
	rangeIs(t, "Z", z, ints(0, 1), 0, span(500, 600), api.OK)
	rangeIs(t, "Z", z, ints(0, 1), 1, span(500, 600), api.OK)
	rangeIs(t, "Y", y, ints(0, 1), 0, span(600, 600), api.OK)
	rangeIs(t, "Y", y, ints(0, 1), 2, span(300, 300), api.OK)
	goneIs(t, "Y", y, ints(1), 0, span(300, 300), api.OK)
	goneIs(t, "Y", y, ints(1), 1, span(0, 0), api.OK)
	writesIs(t, "Z", z, textZ, api.OK)
	readIs(t, textZ, z, api.OK)
}

// TestNothing is yards with no papers, and with no counts either.
func TestNothing(t *testing.T) {
	y := bare(1, 1)
	closesIs(t, "nothing", y, nil, true, api.OK)
	closesIs(t, "an empty list", y, ints(), true, api.OK)
	whyIs(t, "nothing", y, nil, api.WaProof{}, api.ErrNone)
	fewestIs(t, "nothing", y, nil, api.OK)
	mustIs(t, "nothing", y, nil, api.OK)
	mayIs(t, "nothing", y, nil, api.OK)
	goneIs(t, "nothing", y, nil, 0, span(0, 0), api.OK)
	rangeIs(t, "nothing", y, nil, 0, span(0, 0), api.ErrNone)
	for i, c := range []struct {
		first, last []api.WaCount
		proof       api.WaProof
		e           api.Errno
	}{
		{counts(count(0, 0, 3, 5)), nil, api.WaProof{}, api.ErrNone},
		{counts(count(0, 0, 1000000, 1000000)), nil, api.WaProof{}, api.ErrNone},
		{nil, counts(count(0, 0, 0, 7)), api.WaProof{}, api.ErrNone},
		{nil, counts(count(0, 0, 1, 7)), sums(0, 1, -1), api.OK},
		{nil, counts(count(0, 0, 1000000, 1000000)), sums(0, 1, -1000000), api.OK},
		{counts(count(0, 0, 1000000, 1000000)), counts(count(0, 0, 0, 0)), sums(0, 1, 1000000), api.OK},
		{counts(count(0, 0, 3, 5)), counts(count(0, 0, 5, 7)), api.WaProof{}, api.ErrNone},
		{counts(count(0, 0, 3, 5)), counts(count(0, 0, 1, 3)), api.WaProof{}, api.ErrNone},
		{counts(count(0, 0, 3, 5)), counts(count(0, 0, 4, 4)), api.WaProof{}, api.ErrNone},
		{counts(count(0, 0, 3, 5)), counts(count(0, 0, 6, 7)), sums(0, 1, -1), api.OK},
		{counts(count(0, 0, 3, 5)), counts(count(0, 0, 1, 2)), sums(0, 1, 1), api.OK},
	} {
		y := yard(1, c.first, nil, c.last)
		closes := c.e == api.ErrNone
		closesIs(t, i, y, nil, closes, api.OK)
		whyIs(t, i, y, nil, c.proof, c.e)
		if closes {
			fewestIs(t, i, y, nil, api.OK)
			mustIs(t, i, y, nil, api.OK)
			mayIs(t, i, y, nil, api.OK)
			goneIs(t, i, y, nil, 0, span(0, 0), api.OK)
		} else {
			fewestIs(t, i, y, nil, api.ErrDown)
			mustIs(t, i, y, nil, api.ErrDown)
			mayIs(t, i, y, nil, api.ErrDown)
			goneIs(t, i, y, nil, 0, span(0, 0), api.ErrDown)
		}
		provesIs(t, i, y, nil, c.proof, !closes, api.OK)
		rangeIs(t, i, y, nil, 0, span(0, 0), api.ErrNone)
	}
}

// TestNotBelowNothing is P9.2: where no count of Last is there cannot be less than nothing, nor is there a greatest number.
func TestNotBelowNothing(t *testing.T) {
	y := yard(2, counts(count(0, 0, 2, 5)), papers(paper(0, 0, 1, 5, -1)), nil)
	closesIs(t, "5 of 5", y, nil, true, api.OK)
	y.Papers[0].Kilos = 6
	whyIs(t, "6 of 5", y, nil, sums(0, 1, -1), api.OK)
	fewestIs(t, "6 of 5", y, ints(0), api.OK)
	rangeIs(t, "6 of 5", y, ints(0), 0, span(0, 5), api.OK)
	y.Papers[0] = paper(0, 1, 0, 1, -1)
	whyIs(t, "from where nothing was", y, nil, sums(0, 2, -1), api.OK)
	y.Papers[0] = paper(0, out, 1, 1000000, -1)
	closesIs(t, "any number is left", y, nil, true, api.OK)
	y.Papers = append(y.Papers, y.Papers[0], y.Papers[0])
	closesIs(t, "more than MaxWaKilos is left", y, nil, true, api.OK)
	goneIs(t, "more than MaxWaKilos came", y, nil, 0, span(-3000000, -3000000), api.OK)
	goneIs(t, "what came is not known", y, ints(0, 2), 0, span(-3000000, -1000000), api.OK)
	rangeIs(t, "what came is not known", y, ints(0, 2), 2, span(0, 1000000), api.OK)
}

// TestCopies is P9.2 and what a journey allows: copies that differ, with the first, the second, both and none of them false.
func TestCopies(t *testing.T) {
	// 10 were there, and 6 are left: 4 went.
	of := func(first, second int) api.WaYard {
		return yard(1, counts(count(0, 0, 10, 10)), papers(paper(0, 0, out, first, 1), paper(0, 0, out, second, 0)), counts(count(0, 0, 6, 6)))
	}
	for i, c := range []struct {
		first, second int
		wrong         []int
		proof         api.WaProof
		e             api.Errno
	}{
		{4, 4, nil, api.WaProof{}, api.ErrNone},
		{4, 4, ints(0), api.WaProof{}, api.ErrNone},
		{4, 4, ints(1), api.WaProof{}, api.ErrNone},
		{4, 4, ints(0, 1), api.WaProof{}, api.ErrNone},
		{4, 5, nil, differs(0), api.OK},
		{5, 4, nil, differs(0), api.OK},
		{4, 5, ints(0), sums(0, 1, -1), api.OK},
		{4, 5, ints(1), api.WaProof{}, api.ErrNone},
		{5, 4, ints(0), api.WaProof{}, api.ErrNone},
		{5, 4, ints(1), sums(0, 1, -1), api.OK},
		{3, 5, ints(0), sums(0, 1, -1), api.OK},
		{3, 5, ints(1), sums(0, 1, 1), api.OK},
		{3, 5, ints(0, 1), api.WaProof{}, api.ErrNone},
		{3, 3, nil, sums(0, 1, 1), api.OK},
		{3, 3, ints(0), sums(0, 1, 1), api.OK},
		{3, 3, ints(1), sums(0, 1, 1), api.OK},
		{3, 3, ints(0, 1), api.WaProof{}, api.ErrNone},
	} {
		y := of(c.first, c.second)
		whyIs(t, i, y, c.wrong, c.proof, c.e)
		closesIs(t, i, y, c.wrong, c.e == api.ErrNone, api.OK)
		for paper := range 2 {
			if c.e == api.ErrNone {
				rangeIs(t, i, y, c.wrong, paper, span(4, 4), api.OK)
			} else {
				rangeIs(t, i, y, c.wrong, paper, span(0, 0), api.ErrDown)
			}
		}
	}
	fewestIs(t, "the second is false", of(4, 5), ints(1), api.OK)
	fewestIs(t, "the first is false", of(5, 4), ints(0), api.OK)
	fewestIs(t, "both are false", of(5, 5), ints(0, 1), api.OK)
	mustIs(t, "both are false", of(5, 3), ints(0, 1), api.OK)
	mustIs(t, "one is false", of(4, 3), ints(1), api.OK)
	// If nobody counted either can be false.
	y := of(4, 3)
	y.Last = nil
	fewestIs(t, "either is false", y, ints(0), api.OK)
	mustIs(t, "either is false", y, nil, api.OK)
	mayIs(t, "either is false", y, ints(0, 1), api.OK)
	rangeIs(t, "either is false", y, ints(0), 0, span(3, 3), api.OK)
	rangeIs(t, "either is false", y, ints(1), 0, span(4, 4), api.OK)
	rangeIs(t, "both are false", y, ints(0, 1), 0, span(0, 10), api.OK)
	rangeIs(t, "both are false", y, ints(0, 1), 1, span(0, 10), api.OK)
}

// TestOnceAJourney is that two papers of one journey tell one journey, wherever they are in the list.
func TestOnceAJourney(t *testing.T) {
	y := yard(2, counts(count(0, 0, 20, 20)), papers(
		paper(0, 0, 1, 5, 3),
		paper(0, 0, 1, 7, 2),
		paper(0, 0, 1, 7, 1),
		paper(0, 0, 1, 5, 0),
	), counts(count(0, 0, 8, 8), count(0, 1, 12, 12)))
	closesIs(t, "two journeys", y, nil, true, api.OK)
	for i := range y.Papers {
		y.Papers[i].Copy = -1
	}
	closesIs(t, "four journeys", y, nil, false, api.OK)
	whyIs(t, "four journeys", y, nil, sums(0, 1, -12), api.OK)
	y.First[0].Kilos, y.Last = span(32, 32), counts(count(0, 0, 8, 8), count(0, 1, 24, 24))
	closesIs(t, "four journeys of 24", y, nil, true, api.OK)
}

// TestWhyOrder is P9.2: a Paper comes first, the least one; then the least Kind, and the least Places.
func TestWhyOrder(t *testing.T) {
	y := bare(3, 3)
	y.Papers = papers(
		paper(0, 0, out, 1, -1), // from where nothing is
		paper(2, out, 0, 5, 4),
		paper(1, out, 0, 7, 3),
		paper(1, out, 0, 8, 2),
		paper(2, out, 0, 6, 1),
	)
	y.Last = counts(count(2, 2, 3, 3), count(2, 1, 2, 2), count(1, 2, 4, 9))
	whyIs(t, "two pairs differ", y, nil, differs(1), api.OK)
	whyIs(t, "the first of a pair is false", y, ints(1), differs(2), api.OK)
	whyIs(t, "the second of a pair is false", y, ints(4), differs(2), api.OK)
	whyIs(t, "no pair is left", y, ints(1, 2), sums(0, 1, -1), api.OK)
	whyIs(t, "the kind 1", y, ints(0, 1, 2), sums(1, 4, -4), api.OK)
	y.Last = y.Last[:2]
	whyIs(t, "the kind 2, the second place", y, ints(0, 1, 2), sums(2, 2, -2), api.OK)
	y.Last = y.Last[:1]
	whyIs(t, "the kind 2, the third place", y, ints(0, 1, 2), sums(2, 4, -3), api.OK)
	y.Last = nil
	whyIs(t, "none", y, ints(0, 1, 2), api.WaProof{}, api.ErrNone)
	// Alone each place can be right: 5 at most come to both.
	y = yard(3, counts(count(0, 2, 5, 5)), papers(paper(0, 2, 0, 1, -1), paper(0, 2, 1, 1, -1)), counts(count(0, 0, 3, 9), count(0, 1, 3, 9)))
	whyIs(t, "three places", y, ints(0, 1), sums(0, 7, -1), api.OK)
	y.First = append(y.First, count(0, 1, 1, 1))
	whyIs(t, "6 at three places", y, ints(0, 1), api.WaProof{}, api.ErrNone)
	y.First = counts(count(0, 0, 1, 1), count(0, 1, 1, 1), count(0, 2, 4, 4))
	y.Papers = papers(paper(0, 0, 1, 0, -1), paper(0, 1, 0, 0, -1))
	y.Last = counts(count(0, 0, 0, 0), count(0, 1, 0, 0), count(0, 2, 4, 4))
	whyIs(t, "too much at two places", y, ints(0, 1), sums(0, 3, 2), api.OK)
	whyIs(t, "of too much and too little, the least places", y, ints(1), sums(0, 1, 1), api.OK)
	y.Last[2].Kilos = span(5, 5)
	whyIs(t, "too much at two, too little at the third", y, ints(0, 1), sums(0, 3, 2), api.OK)
}

// TestProves is P9.2: each field of a proof wrong by itself, and places that are none.
func TestProves(t *testing.T) {
	y := sampleY()
	y.Kinds = append(y.Kinds, "mercury")
	for i, c := range []struct {
		wrong []int
		p     api.WaProof
		want  bool
	}{
		{nil, differs(0), true},
		{nil, differs(1), false}, // its copy is not later
		{nil, differs(2), false}, // it has none
		{nil, differs(3), false},
		{nil, differs(-2), false},
		{ints(2), differs(0), true},
		{ints(0), differs(0), false},
		{ints(1), differs(0), false},
		{ints(0, 1), differs(0), false},
		{nil, api.WaProof{Kind: 1}, false},
		{nil, api.WaProof{Places: 1}, false},
		{nil, api.WaProof{Over: 1}, false},
		{nil, api.WaProof{Over: -1}, false},
		{nil, api.WaProof{Kind: -1}, false},
		{ints(0), sums(0, 1, 100), true},
		{ints(0), sums(0, 1, 99), false},
		{ints(0), sums(0, 1, 101), false},
		{ints(0), sums(0, 1, -100), false},
		{ints(0), sums(0, 1, 0), false},
		{ints(0), sums(0, 0, 100), false},
		{ints(0), sums(0, 0, 0), false},
		{ints(0), sums(0, 2, 100), false},
		{ints(0), sums(0, 2, -100), true},
		{ints(0), sums(0, 3, 100), false},
		{ints(0), sums(0, 3, 0), false},
		{ints(0), sums(0, 4, 100), false},
		{ints(0), sums(0, 5, 100), false}, // a place that is none, with one that is
		{ints(0), sums(0, -1, 100), false},
		{ints(0), sums(0, -3, 100), false},
		{ints(0), sums(0, 1+1<<32, 100), false},
		{ints(0), sums(0, 1+1<<16, 100), false},
		{ints(0), sums(0, least+1, 100), false},
		{ints(0), sums(1, 1, 100), false},
		{ints(0), sums(1, 1, 0), false},
		{ints(0), sums(2, 1, 100), false},
		{ints(0), sums(3, 1, 100), false},
		{ints(0), sums(-1, 1, 100), false},
		{ints(0), sums(1<<32, 1, 100), false},
		{ints(0), api.WaProof{Paper: 0, Places: 1, Over: 100}, false},
		{ints(0), api.WaProof{Paper: 2, Places: 1, Over: 100}, false},
		{ints(0), api.WaProof{Paper: -2, Places: 1, Over: 100}, false},
		{ints(0), api.WaProof{Paper: least, Places: 1, Over: 100}, false},
		// Two copies that differ are not a proof with places of what the second one tells.
		{nil, sums(0, 1, 100), false},
		{nil, sums(0, 1, 0), false},
		{ints(1), sums(0, 1, 100), false},
		{ints(1), differs(0), false},
		{ints(1), api.WaProof{}, false},
		{ints(1), api.WaProof{Paper: -1}, false},
	} {
		provesIs(t, i, y, c.wrong, c.p, c.want, api.OK)
	}
	for _, n := range far() {
		for _, p := range []api.WaProof{differs(n), sums(n, 1, 100), sums(0, n, 100), sums(0, 1, n), sums(n, n, n), {Kind: n}, {Places: n}, {Over: n}} {
			provesIs(t, n, y, ints(0), p, false, api.OK)
			provesIs(t, n, y, nil, p, false, api.OK)
		}
	}
	// Where no count is there is no greatest that should be there: also 0 would be exceeded.
	y.Last = nil
	for over := range 1001 {
		provesIs(t, "no count", y, ints(0), sums(0, 1, over), false, api.OK)
		provesIs(t, "no count", y, ints(0), sums(0, 3, over), false, api.OK)
	}
	// With one place that is not counted there is none for both.
	y.Last = counts(count(0, 0, 100, 100))
	provesIs(t, "one count", y, ints(0), sums(0, 1, 100), true, api.OK)
	provesIs(t, "one count", y, ints(0), sums(0, 3, 600), false, api.OK)
	// With copies that differ the places are looked at with what the first one tells.
	y.Last = counts(count(0, 0, 99, 99))
	provesIs(t, "the first one tells", y, nil, sums(0, 1, 1), true, api.OK)
	provesIs(t, "the second one does not", y, nil, sums(0, 1, 101), false, api.OK)
}

// TestLeastSets is P9.3: several least sets; papers that are in all, in some and in none of them.
func TestLeastSets(t *testing.T) {
	y := yard(2, counts(count(0, 0, 10, 10)), papers(
		paper(0, 0, 1, 2, -1),
		paper(0, 0, 1, 3, -1),
		paper(0, out, 1, 7, 3), // false, or its copy is
		paper(0, out, 1, 6, 2),
		paper(0, 0, out, 1, -1),
	), counts(count(0, 0, 5, 5)))
	// 10 less 2, 3 and 1 are 4: one too few.
	fewestIs(t, "several", y, ints(0, 2), api.OK)
	mustIs(t, "several", y, nil, api.OK)
	mayIs(t, "several", y, ints(0, 1, 2, 3, 4), api.OK)
	y.Papers[4].Kilos = 0
	fewestIs(t, "one copy", y, ints(2), api.OK)
	mustIs(t, "one copy", y, nil, api.OK)
	mayIs(t, "one copy", y, ints(2, 3), api.OK)
	y.Last = append(y.Last, count(0, 1, 11, 11))
	fewestIs(t, "the second copy has to be true", y, ints(2), api.OK)
	mustIs(t, "the second copy, or all others", y, nil, api.OK)
	closesIs(t, "all others", y, ints(0, 1, 3, 4), true, api.OK)
	mayIs(t, "the second copy has to be true", y, ints(2), api.OK)
	y.Last[1].Kilos = span(12, 13)
	fewestIs(t, "the first copy has to be true", y, ints(3), api.OK)
	mayIs(t, "the first copy has to be true", y, ints(3), api.OK)
	y.Last[1].Kilos = span(13, 14)
	fewestIs(t, "13 in the pit", y, ints(2, 3), api.OK)
	mustIs(t, "13 in the pit", y, ints(2, 3), api.OK)
	mayIs(t, "13 in the pit", y, ints(2, 3), api.OK)
	// Of two journeys either can be wrong by all of it; together they may be by a part each, but that are more papers.
	y = yard(2, counts(count(0, 0, 9, 9)), papers(paper(0, 0, 1, 4, -1), paper(0, 0, 1, 4, -1), paper(0, 0, 1, 1, -1)), counts(count(0, 0, 2, 2)))
	fewestIs(t, "2 too few", y, ints(0), api.OK)
	mayIs(t, "2 too few", y, ints(0, 1), api.OK) // the third one has only 1
	mustIs(t, "2 too few", y, nil, api.OK)
	y.Last = counts(count(0, 0, 6, 6))
	fewestIs(t, "6 too few", y, ints(0, 1), api.OK)
	mayIs(t, "6 too few", y, ints(0, 1), api.OK)
	mustIs(t, "6 too few", y, ints(0, 1), api.OK)
	y.Last = counts(count(0, 0, 9, 9))
	fewestIs(t, "9 too few", y, ints(0, 1, 2), api.OK)
	y.Last = counts(count(0, 0, 10, 10))
	fewestIs(t, "10 too few", y, nil, api.ErrDown)
	mustIs(t, "10 too few", y, nil, api.ErrDown)
	mayIs(t, "10 too few", y, nil, api.ErrDown)
	closesIs(t, "10 too few", y, ints(0, 1, 2), false, api.OK)
	whyIs(t, "10 too few", y, ints(0, 1, 2), sums(0, 1, -1), api.OK)
	// Lists are compared number by number: 0 and 9 come before 1 and 2.
	y = bare(3, 1)
	for range 10 {
		y.Papers = append(y.Papers, paper(2, out, 0, 1, -1))
	}
	y.Papers[0], y.Papers[9] = paper(0, out, 0, 5, 9), paper(0, out, 0, 6, 0)
	y.Papers[1], y.Papers[8] = paper(1, out, 0, 5, 8), paper(1, out, 0, 6, 1)
	fewestIs(t, "two pairs", y, ints(0, 1), api.OK)
	mayIs(t, "two pairs", y, ints(0, 1, 8, 9), api.OK)
	y.Last = counts(count(1, 0, 5, 5))
	fewestIs(t, "one of the other pair", y, ints(0, 8), api.OK)
	mustIs(t, "one of the other pair", y, ints(8), api.OK)
	mayIs(t, "one of the other pair", y, ints(0, 8, 9), api.OK)
	y.Last = append(y.Last, count(0, 0, 5, 5))
	fewestIs(t, "the second of each pair", y, ints(8, 9), api.OK)
	mustIs(t, "the second of each pair", y, ints(8, 9), api.OK)
}

// TestLongest is P9.3: all MaxWaPapers papers have to be false.
func TestLongest(t *testing.T) {
	y := bare(4, 4)
	for i := range 10 {
		y.Papers = append(y.Papers, paper(i%4, out, i/4, 1+i, -1))
	}
	y.Last = nil
	fewestIs(t, "none", y, nil, api.OK)
	for i := range 8 {
		y.Last = append(y.Last, count(i%4, i/4, 0, 0))
	}
	y.Papers[8].To, y.Papers[9].To = 0, 0
	fewestIs(t, "all", y, ints(0, 1, 2, 3, 4, 5, 6, 7, 8, 9), api.OK)
	mustIs(t, "all", y, ints(0, 1, 2, 3, 4, 5, 6, 7, 8, 9), api.OK)
	mayIs(t, "all", y, ints(0, 1, 2, 3, 4, 5, 6, 7, 8, 9), api.OK)
	closesIs(t, "all but the last", y, ints(0, 1, 2, 3, 4, 5, 6, 7, 8), false, api.OK)
	whyIs(t, "all but the last", y, ints(0, 1, 2, 3, 4, 5, 6, 7, 8), sums(1, 1, 10), api.OK)
	y.First = counts(count(3, 3, 1, 1))
	y.Last[7] = count(3, 3, 2, 2)
	fewestIs(t, "not even all", y, nil, api.ErrDown)
	mustIs(t, "not even all", y, nil, api.ErrDown)
	mayIs(t, "not even all", y, nil, api.ErrDown)
}

// TestRanges is P9.4: ranges with one end and with two, from 0 and to MaxWaKilos, and of a journey with a paper that is not false.
func TestRanges(t *testing.T) {
	y := yard(2, counts(count(0, 0, 10, 12)), papers(paper(0, 0, 1, 3, -1), paper(0, 1, out, 2, -1), paper(0, out, 0, 4, -1)), nil)
	for i, c := range []struct {
		last  []api.WaCount
		wrong []int
		paper int
		want  api.Span
		e     api.Errno
	}{
		{nil, nil, 0, span(3, 3), api.OK},
		{nil, ints(1, 2), 0, span(3, 3), api.OK},
		{nil, ints(0), 0, span(2, 16), api.OK}, // 2 go on, and at most 12 and 4 are there
		{nil, ints(1), 1, span(0, 3), api.OK},
		{nil, ints(2), 2, span(0, 1000000), api.OK},
		{nil, ints(0, 1), 0, span(0, 16), api.OK},
		{nil, ints(0, 1), 1, span(0, 16), api.OK},
		{nil, ints(0, 2), 0, span(2, 1000000), api.OK},
		{nil, ints(0, 1, 2), 0, span(0, 1000000), api.OK},
		{nil, ints(0, 1, 2), 1, span(0, 1000000), api.OK},
		{counts(count(0, 0, 5, 8)), ints(0), 0, span(6, 11), api.OK},
		{counts(count(0, 1, 5, 8)), ints(0), 0, span(7, 10), api.OK},
		{counts(count(0, 0, 5, 8), count(0, 1, 5, 8)), ints(0), 0, span(7, 10), api.OK},
		{counts(count(0, 0, 5, 8), count(0, 1, 1, 2)), ints(0), 0, span(0, 0), api.ErrDown},
		{counts(count(0, 0, 5, 8), count(0, 1, 1, 2)), ints(0, 1), 0, span(6, 11), api.OK},
		{counts(count(0, 0, 5, 8), count(0, 1, 1, 2)), ints(0, 1), 1, span(4, 10), api.OK},
		{counts(count(0, 0, 5, 8), count(0, 1, 1, 2)), ints(0, 1), 2, span(4, 4), api.OK},
		{counts(count(0, 0, 5, 8), count(0, 1, 1, 2)), ints(0, 1, 2), 2, span(0, 999998), api.OK}, // at most 1000000 went on, 10 were there, and 8 are left,
		{counts(count(0, 0, 1000000, 1000000)), ints(0, 2), 2, span(999990, 1000000), api.OK},
		{nil, ints(0, 1, 2), 3, span(0, 0), api.ErrNone},
		{counts(count(0, 0, 5, 8)), nil, 3, span(0, 0), api.ErrNone}, // ahead of ErrDown
		{counts(count(0, 0, 5, 8)), nil, -1, span(0, 0), api.ErrNone},
		{counts(count(0, 0, 5, 8)), nil, 0, span(0, 0), api.ErrDown},
	} {
		y.Last = c.last
		rangeIs(t, i, y, c.wrong, c.paper, c.want, c.e)
	}
}

// TestGone is P9.4: what is gone, and what came.
func TestGone(t *testing.T) {
	y := yard(2, counts(count(0, 0, 10, 12)), papers(paper(0, 0, 1, 3, -1), paper(0, 1, out, 2, -1), paper(0, out, 0, 4, -1)), nil)
	y.Kinds = append(y.Kinds, "none")
	for i, c := range []struct {
		last  []api.WaCount
		wrong []int
		kind  int
		want  api.Span
		e     api.Errno
	}{
		{nil, nil, 0, span(-2, -2), api.OK},
		{nil, ints(0), 0, span(-2, -2), api.OK},
		{nil, ints(1), 0, span(-4, -1), api.OK},
		{nil, ints(2), 0, span(2-1000000, 2), api.OK},
		{nil, ints(0, 1), 0, span(-4, 12), api.OK},
		{nil, ints(0, 1, 2), 0, span(-1000000, 12), api.OK},
		{counts(count(0, 0, 5, 8)), ints(0), 0, span(-2, -2), api.OK},
		{counts(count(0, 0, 5, 8)), ints(0, 1), 0, span(-4, 7), api.OK},
		{counts(count(0, 0, 5, 8), count(0, 1, 0, 3)), ints(0, 1), 0, span(-1, 7), api.OK},
		{counts(count(0, 0, 5, 8), count(0, 1, 1, 2)), ints(0, 1), 0, span(0, 6), api.OK},
		{counts(count(0, 0, 5, 8), count(0, 1, 1, 2)), ints(0, 1, 2), 0, span(0, 6), api.OK},
		{counts(count(0, 0, 5, 8)), nil, 0, span(0, 0), api.ErrDown},
		{counts(count(0, 0, 5, 8)), nil, 1, span(0, 0), api.ErrDown}, // also of another kind
		{counts(count(0, 0, 5, 8)), ints(0), 1, span(0, 0), api.OK},
		{counts(count(0, 0, 5, 8)), nil, 2, span(0, 0), api.ErrNone}, // ahead of ErrDown
		{counts(count(0, 0, 5, 8)), nil, -1, span(0, 0), api.ErrNone},
		{nil, nil, 2, span(0, 0), api.ErrNone},
	} {
		y.Last = c.last
		goneIs(t, i, y, c.wrong, c.kind, c.want, c.e)
	}
}

// TestFarKindsAndPapers is P9.4: papers and kinds that are none, also far beyond the limits.
func TestFarKindsAndPapers(t *testing.T) {
	for _, y := range []api.WaYard{sampleY(), sampleZ(), bare(4, 4)} {
		for _, n := range append(far(), -1, len(y.Papers), len(y.Papers)+1, 10, 11) {
			rangeIs(t, n, y, nil, n, span(0, 0), api.ErrNone)
		}
		for _, n := range append(far(), -1, len(y.Kinds), len(y.Kinds)+1, 5) {
			goneIs(t, n, y, nil, n, span(0, 0), api.ErrNone)
		}
	}
}

// TestMost is the greatest numbers that there can be.
func TestMost(t *testing.T) {
	y := yard(4, nil, nil, nil)
	for i := range 4 {
		y.First = append(y.First, count(0, i, 1000000, 1000000))
		y.Last = append(y.Last, count(0, i, 0, 0))
	}
	whyIs(t, "four places", y, nil, sums(0, 1, 1000000), api.OK)
	provesIs(t, "four places", y, nil, sums(0, 15, 4000000), true, api.OK)
	for i := range 10 {
		y.Papers = append(y.Papers, paper(0, i%4, out, 1000000, -1))
	}
	whyIs(t, "too little", y, nil, sums(0, 1, -2000000), api.OK)
	provesIs(t, "too little", y, nil, sums(0, 15, -6000000), true, api.OK)
	goneIs(t, "all gone", y, allOf(y), 0, span(4000000, 4000000), api.OK)
	rangeIs(t, "all gone", y, allOf(y), 9, span(0, 1000000), api.OK)
	fewestIs(t, "all gone", y, ints(0, 1, 2, 3, 4, 5), api.OK)
	for i := range y.Papers {
		y.Papers[i].From, y.Papers[i].To = out, i%4
	}
	whyIs(t, "too much", y, nil, sums(0, 1, 4000000), api.OK)
	provesIs(t, "too much", y, nil, sums(0, 15, 14000000), true, api.OK)
	whyIs(t, "too much with all", y, allOf(y), sums(0, 1, 1000000), api.OK)
	y.Last = nil
	goneIs(t, "all came", y, nil, 0, span(-10000000, -10000000), api.OK)
	goneIs(t, "any can have come", y, allOf(y), 0, span(-10000000, 0), api.OK)
	rangeIs(t, "any can have come", y, allOf(y), 3, span(0, 1000000), api.OK)
	y.Last = counts(count(0, 0, 1000000, 1000000), count(0, 1, 1000000, 1000000))
	goneIs(t, "to two places nothing came", y, allOf(y), 0, span(-4000000, 0), api.OK)
	fewestIs(t, "to two places nothing came", y, ints(0, 1, 4, 5, 8, 9), api.OK)
	mustIs(t, "to two places nothing came", y, ints(0, 1, 4, 5, 8, 9), api.OK)
}
