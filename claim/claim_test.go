package claim_test

import (
	"slices"
	"strings"
	"testing"

	"orlop/api"
)

// ways is which papers have to be forged for somebody to be the owner, as 0 and 2, or nothing for none; the others are no owners.
type ways map[string][]int

// leads checks Owners and Forged.
func leads(t *testing.T, what any, s api.ClShip, day int, want ways) {
	t.Helper()
	var owners []string
	for owner, forged := range want {
		owners = append(owners, owner)
		forgedIs(t, what, s, day, owner, forged, api.OK)
	}
	slices.Sort(owners)
	ownersAre(t, what, s, day, owners, api.OK)
	others := append(noNames(), "a", "b", "c", "d", "zz", "clyde", "orient", "pacific", "cash")
	for _, name := range others {
		if _, is := want[name]; !is {
			forgedIs(t, what, s, day, name, nil, api.ErrNone)
		}
	}
}

// TestShipExamples is P11.2: the examples of the chapter.
func TestShipExamples(t *testing.T) {
	s := sampleS()
	leads(t, "on 30", s, 30, ways{"cash": ints(1), "clyde": ints(0), "pacific": nil})
	leads(t, "on 25", s, 25, ways{"clyde": ints(0), "orient": ints(1), "pacific": nil})
	leads(t, "on 9", s, 9, ways{"clyde": nil})
	ownersAre(t, "on 30", s, 30, words("cash", "clyde", "pacific"), api.OK)
	forgedIs(t, "cash", s, 30, "cash", ints(1), api.OK)
	forgedIs(t, "pacific", s, 30, "pacific", nil, api.OK)
	forgedIs(t, "orient", s, 30, "orient", nil, api.ErrNone)
}

// TestDaysOfPapers is P11.2: days on which no paper is, days of several papers, and papers in another order than their days.
func TestDaysOfPapers(t *testing.T) {
	ab, bc, ca := paper(5, "a", "b"), paper(5, "b", "c"), paper(5, "c", "a")
	later := func(p api.ClPaper, day int) api.ClPaper {
		p.Day = day
		return p
	}
	for i, c := range []struct {
		s    api.ClShip
		day  int
		want ways
	}{
		// No paper at all.
		{shipOf("a", 0), 0, ways{"a": nil}},
		{shipOf("a", 8), 40000, ways{"a": nil}},
		{shipOf(long, 3), 7, ways{long: nil}},
		// Before, on and after its day.
		{shipOf("a", 0, ab), 4, ways{"a": nil}},
		{shipOf("a", 0, ab), 5, ways{"b": nil}},
		{shipOf("a", 0, ab), 6, ways{"b": nil}},
		{shipOf("a", 0, later(ab, 0)), 0, ways{"b": nil}},
		{shipOf("a", 0, later(ab, 40000)), 39999, ways{"a": nil}},
		{shipOf("a", 0, later(ab, 40000)), 40000, ways{"b": nil}},
		{shipOf("a", 1, ab), 4, ways{"a": nil}},
		{shipOf("a", 1, ab), 5, ways{"a": ints(0), "b": nil}},
		// Several papers of a day, in the order of the list.
		{shipOf("a", 0, ab, bc), 5, ways{"c": nil}},
		{shipOf("a", 0, bc, ab), 5, ways{"b": nil}},
		{shipOf("a", 0, ab, bc, ca), 5, ways{"a": nil}},
		{shipOf("a", 0, ca, ab, bc), 5, ways{"c": nil}},
		{shipOf("a", 0, bc, ca, ab), 5, ways{"b": nil}},
		{shipOf("a", 0, ab, paper(5, "a", "c")), 5, ways{"b": nil}},
		{shipOf("a", 0, paper(5, "a", "c"), ab), 5, ways{"c": nil}},
		{shipOf("a", 1, ab, paper(5, "a", "c")), 5, ways{"b": nil, "c": ints(0)}},
		// By Day, not by the list.
		{shipOf("a", 0, bc, later(ab, 4)), 5, ways{"c": nil}},
		{shipOf("a", 0, later(bc, 6), ab), 5, ways{"b": nil}},
		{shipOf("a", 0, later(bc, 6), ab), 6, ways{"c": nil}},
		{shipOf("a", 0, later(ca, 9), later(bc, 8), later(ab, 7)), 9, ways{"a": nil}},
		{shipOf("a", 1, later(ca, 9), later(bc, 8), later(ab, 7)), 8, ways{"c": nil, "b": ints(1), "a": ints(2)}},
		{shipOf("a", 0, bc, later(ab, 6), later(bc, 7), ab), 7, ways{"c": nil}},
		{shipOf("a", 0, bc, later(ab, 6), later(bc, 7), ab), 5, ways{"b": nil}},
		// Eight papers of one day.
		{shipOf("a", 0, ab, bc, ca, ab, bc, ca, ab, bc), 5, ways{"c": nil}},
	} {
		leads(t, i, c.s, c.day, c.want)
	}
}

// TestWhoHasTheShip is P11.2: papers whose From does not have the ship, that bring her back, and the same one twice.
func TestWhoHasTheShip(t *testing.T) {
	ab, ba, bc, cd := paper(5, "a", "b"), paper(6, "b", "a"), paper(7, "b", "c"), paper(8, "c", "d")
	for i, c := range []struct {
		s    api.ClShip
		day  int
		want ways
	}{
		{shipOf("a", 0, bc), 9, ways{"a": nil}},
		{shipOf("a", 8, bc), 9, ways{"a": nil}},
		{shipOf("a", 1, bc, cd), 9, ways{"a": nil}},
		{shipOf("a", 0, ab, cd), 9, ways{"b": nil}},
		{shipOf("d", 1, ab, bc, cd), 9, ways{"d": nil}},
		// Back to an owner that had her before.
		{shipOf("a", 0, ab, ba), 9, ways{"a": nil}},
		{shipOf("a", 0, ab, ba, bc), 9, ways{"a": nil}},
		{shipOf("a", 1, ab, ba, bc), 9, ways{"a": nil, "c": ints(1)}},
		{shipOf("a", 2, ab, ba, bc), 9, ways{"a": nil, "b": ints(1, 2), "c": ints(1)}},
		{shipOf("a", 0, ab, ba, paper(6, "a", "c")), 9, ways{"c": nil}},
		{shipOf("a", 1, ab, ba, paper(6, "a", "c")), 9, ways{"b": ints(1), "a": ints(2), "c": nil}},
		// The same paper twice.
		{shipOf("a", 0, ab, ab), 9, ways{"b": nil}},
		{shipOf("a", 1, ab, ab), 9, ways{"b": nil}},
		{shipOf("a", 2, ab, ab), 9, ways{"a": ints(0, 1), "b": nil}},
		{shipOf("a", 1, ab, ba, ab), 9, ways{"b": ints(1), "a": nil}}, // the third one comes before the second
		{shipOf("a", 2, ab, ab, bc), 9, ways{"a": ints(0, 1), "b": ints(2), "c": nil}},
		{shipOf("a", 3, ab, ab, ab, ab), 9, ways{"b": nil}},
		{shipOf("a", 4, ab, ab, ab, ab), 9, ways{"b": nil, "a": ints(0, 1, 2, 3)}},
		{shipOf("a", 7, ab, ab, ab, ab, ab, ab, ab, ab), 9, ways{"b": nil}},
		{shipOf("a", 8, ab, ab, ab, ab, ab, ab, ab, ab), 9, ways{"b": nil, "a": ints(0, 1, 2, 3, 4, 5, 6, 7)}},
	} {
		leads(t, i, c.s, c.day, c.want)
	}
}

// TestWhichAreForged is P11.2: as many as can be, owners of one truth and of several, and the first of several lists.
func TestWhichAreForged(t *testing.T) {
	chain := []api.ClPaper{paper(1, "a", "b"), paper(2, "b", "c"), paper(3, "c", "d")}
	twice := []api.ClPaper{paper(1, "a", "b"), paper(2, "a", "b"), paper(3, "b", "c"), paper(4, "b", "c")}
	// Without the papers 0 and 3, or 1 and 2, she goes to d: as numbers by bits, the latter would be the lesser one.
	crossed := []api.ClPaper{paper(1, "a", "b"), paper(2, "b", "p"), paper(3, "b", "q"), paper(2, "a", "c"), paper(9, "a", "d"), paper(9, "b", "d")}
	for i, c := range []struct {
		s    api.ClShip
		day  int
		want ways
	}{
		{shipOf("a", 0, chain...), 3, ways{"d": nil}},
		{shipOf("a", 1, chain...), 3, ways{"d": nil, "c": ints(2), "b": ints(1), "a": ints(0)}},
		{shipOf("a", 3, chain...), 3, ways{"d": nil, "c": ints(2), "b": ints(1), "a": ints(0)}},
		{shipOf("a", 8, chain...), 3, ways{"d": nil, "c": ints(2), "b": ints(1), "a": ints(0)}},
		{shipOf("a", 8, chain...), 2, ways{"c": nil, "b": ints(1), "a": ints(0)}},
		{shipOf("a", 8, chain...), 0, ways{"a": nil}},
		{shipOf("a", 1, twice...), 4, ways{"c": nil}},
		{shipOf("a", 2, twice...), 4, ways{"c": nil, "a": ints(0, 1), "b": ints(2, 3)}},
		{shipOf("a", 4, twice...), 3, ways{"c": nil, "a": ints(0, 1), "b": ints(2)}},
		{shipOf("a", 4, twice...), 2, ways{"b": nil, "a": ints(0, 1)}},
		// Either of two papers leads there.
		{shipOf("a", 1, paper(1, "a", "b"), paper(2, "b", "c"), paper(3, "a", "d"), paper(3, "b", "d")), 9, ways{"c": nil, "d": ints(0)}},
		{shipOf("a", 1, paper(3, "b", "d"), paper(2, "b", "c"), paper(3, "a", "d"), paper(1, "a", "b")), 9, ways{"c": nil, "d": ints(1)}},
		{shipOf("a", 1, crossed...), 9, ways{"p": nil, "q": ints(1), "c": ints(0)}},
		{shipOf("a", 2, crossed...), 9, ways{"p": nil, "q": ints(1), "c": ints(0), "d": ints(0, 3)}},
		{shipOf("a", 3, crossed...), 9, ways{"p": nil, "q": ints(1), "c": ints(0), "d": ints(0, 3), "a": ints(0, 3, 4), "b": ints(1, 2, 5)}},
		{shipOf("a", 3, crossed...), 8, ways{"p": nil, "q": ints(1), "c": ints(0), "a": ints(0, 3), "b": ints(1, 2)}},
	} {
		leads(t, i, c.s, c.day, c.want)
	}
}

// TestOrderOfNames is P11.2: owners are ascending byte by byte.
func TestOrderOfNames(t *testing.T) {
	names := words("z", "aa", "a", "b0", "b", "a9", strings.Repeat("a", 16), "ab")
	s := shipOf("q", 1)
	for i, name := range names {
		s.Papers = append(s.Papers, paper(len(names)-i, "q", name))
	}
	// The first paper that is not forged takes her away for good.
	ownersAre(t, "two", s, 9, words(strings.Repeat("a", 16), "ab"), api.OK)
	s.Forged = 7
	ownersAre(t, "all", s, 9, words("a", "a9", "aa", strings.Repeat("a", 16), "ab", "b", "b0", "z"), api.OK)
	s.Forged = 8
	ownersAre(t, "all, and the first one", s, 9, words("a", "a9", "aa", strings.Repeat("a", 16), "ab", "b", "b0", "q", "z"), api.OK)
}
