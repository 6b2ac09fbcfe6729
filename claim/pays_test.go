package claim_test

import (
	"testing"

	"orlop/api"
)

// TestEstateExamples is P11.4, P11.5 and P11.6: the examples of the chapter.
func TestEstateExamples(t *testing.T) {
	x, u := sampleE(), sampleT()
	paysAre(t, "T", x, u, ints(300, 466, 233, 0), 1, api.OK)
	rangesAre(t, "E", x, []api.Span{span(300, 400), span(400, 654), span(163, 300), span(0, 0)}, api.OK)
	sureIs(t, "E", x, ints(0), api.OK)
	for i, want := range ints(400, 1500, 1500, 1600) {
		leastIs(t, "E", x, i, want, api.OK)
	}
	costIs(t, "tug", x, u, claimOf("tug", 2, 300, 300), ints(0, 116, 58, 0), api.OK)
}

// only is the truth of an estate whose spans are just one number each.
func only(x api.ClEstate) (t api.ClTruth) {
	t.Proceeds = x.Proceeds.Lo
	for _, c := range x.Claims {
		t.Cents = append(t.Cents, c.Cents.Lo)
	}
	return t
}

// settled checks all functions but Cost for an estate whose spans are just one number each: what each claim gets, the rest, which ones get all, and what each needs.
func settled(t *testing.T, what any, x api.ClEstate, pays []int, rest int, sure, needs []int) {
	t.Helper()
	paysAre(t, what, x, only(x), pays, rest, api.OK)
	sureIs(t, what, x, sure, api.OK)
	var ranges []api.Span
	for i, n := range pays {
		ranges = append(ranges, span(n, n))
		leastIs(t, what, x, i, needs[i], api.OK)
	}
	rangesAre(t, what, x, ranges, api.OK)
}

// TestPays is P11.4 and P11.5: proceeds that are none, that just pay a rank, and a cent less and more; claims of 0 cents; ranks without a claim; shares that are rounded down.
func TestPays(t *testing.T) {
	two := [][2]int{{1, 300}, {2, 200}, {2, 100}, {5, 7}}
	needs := ints(300, 600, 600, 607)
	zeros := [][2]int{{1, 0}, {2, 0}, {2, 0}, {3, 5}, {3, 0}, {4, 0}}
	none := ints(0, 0, 0, 5, 0, 0)
	for i, c := range []struct {
		proceeds    int
		of          [][2]int
		pays        []int
		rest        int
		sure, needs []int
	}{
		// One claim.
		{0, [][2]int{{1, 5}}, ints(0), 0, nil, ints(5)},
		{4, [][2]int{{1, 5}}, ints(4), 0, nil, ints(5)},
		{5, [][2]int{{1, 5}}, ints(5), 0, ints(0), ints(5)},
		{6, [][2]int{{1, 5}}, ints(5), 1, ints(0), ints(5)},
		{6, [][2]int{{5, 5}}, ints(5), 1, ints(0), ints(5)},
		{4, [][2]int{{5, 5}}, ints(4), 0, nil, ints(5)},
		// Ranks that are just paid, and a cent less and more.
		{0, two, ints(0, 0, 0, 0), 0, nil, needs},
		{1, two, ints(1, 0, 0, 0), 0, nil, needs},
		{299, two, ints(299, 0, 0, 0), 0, nil, needs},
		{300, two, ints(300, 0, 0, 0), 0, ints(0), needs},
		{301, two, ints(300, 0, 0, 0), 1, ints(0), needs},
		{302, two, ints(300, 1, 0, 0), 1, ints(0), needs},
		{303, two, ints(300, 2, 1, 0), 0, ints(0), needs},
		{599, two, ints(300, 199, 99, 0), 1, ints(0), needs},
		{600, two, ints(300, 200, 100, 0), 0, ints(0, 1, 2), needs},
		{601, two, ints(300, 200, 100, 1), 0, ints(0, 1, 2), needs},
		{606, two, ints(300, 200, 100, 6), 0, ints(0, 1, 2), needs},
		{607, two, ints(300, 200, 100, 7), 0, ints(0, 1, 2, 3), needs},
		{608, two, ints(300, 200, 100, 7), 1, ints(0, 1, 2, 3), needs},
		// Cents that are left by rounding go to nobody, also not to a claim that asks for just so many.
		{2, [][2]int{{1, 1}, {1, 1}, {1, 1}, {2, 1}}, ints(0, 0, 0, 0), 2, nil, ints(3, 3, 3, 4)},
		{5, [][2]int{{1, 2}, {1, 2}, {1, 2}, {3, 2}}, ints(1, 1, 1, 0), 2, nil, ints(6, 6, 6, 8)},
		{7, [][2]int{{1, 1}, {1, 1}, {1, 1}, {1, 1}, {1, 1}, {1, 1}, {1, 1}, {1, 1}}, ints(0, 0, 0, 0, 0, 0, 0, 0), 7, nil, ints(8, 8, 8, 8, 8, 8, 8, 8)},
		{5, [][2]int{{1, 3}, {1, 3}, {2, 0}}, ints(2, 2, 0), 1, ints(2), ints(6, 6, 0)},
		// Claims of 0 cents, alone, all of a rank, and behind a rank that is not paid.
		{0, [][2]int{{1, 0}}, ints(0), 0, ints(0), ints(0)},
		{9, [][2]int{{3, 0}}, ints(0), 9, ints(0), ints(0)},
		{0, [][2]int{{1, 0}, {1, 0}}, ints(0, 0), 0, ints(0, 1), ints(0, 0)},
		{0, zeros, ints(0, 0, 0, 0, 0, 0), 0, ints(0, 1, 2, 4, 5), none},
		{4, zeros, ints(0, 0, 0, 4, 0, 0), 0, ints(0, 1, 2, 4, 5), none},
		{5, zeros, none, 0, ints(0, 1, 2, 3, 4, 5), none},
		{3, [][2]int{{1, 4}, {1, 0}, {2, 0}, {2, 1}}, ints(3, 0, 0, 0), 0, ints(1, 2), ints(4, 0, 0, 5)},
		// Ranks without a claim, and claims that are not told by rank.
		{9, [][2]int{{5, 4}, {2, 6}}, ints(3, 6), 0, ints(1), ints(10, 6)},
		{5, [][2]int{{5, 4}, {2, 6}}, ints(0, 5), 0, nil, ints(10, 6)},
		{11, [][2]int{{4, 1}, {3, 2}, {2, 3}, {1, 4}}, ints(1, 2, 3, 4), 1, ints(0, 1, 2, 3), ints(10, 9, 7, 4)},
		{8, [][2]int{{4, 1}, {3, 2}, {2, 3}, {1, 4}}, ints(0, 1, 3, 4), 0, ints(2, 3), ints(10, 9, 7, 4)},
		{8, [][2]int{{3, 3}, {1, 4}, {3, 3}}, ints(2, 4, 2), 0, ints(1), ints(10, 4, 10)},
		// The greatest numbers.
		{billion, [][2]int{{1, billion}, {1, billion}}, ints(500000000, 500000000), 0, nil, ints(2*billion, 2*billion)},
		{billion, [][2]int{{1, billion}, {2, 1}}, ints(billion, 0), 0, ints(0), ints(billion, billion+1)},
		{billion - 1, [][2]int{{1, billion}, {1, 1}}, ints(billion-2, 0), 1, nil, ints(billion+1, billion+1)},
		{billion, [][2]int{{1, billion}, {1, billion}, {1, billion}}, ints(333333333, 333333333, 333333333), 1, nil, ints(3*billion, 3*billion, 3*billion)},
		{billion, [][2]int{{1, billion}, {1, billion}, {2, billion}, {3, billion}, {4, billion}, {5, billion}, {5, billion}, {5, billion}}, ints(500000000, 500000000, 0, 0, 0, 0, 0, 0), 0, nil, ints(2*billion, 2*billion, 3*billion, 4*billion, 5*billion, 8*billion, 8*billion, 8*billion)},
		{999999999, [][2]int{{1, 999999999}, {1, 999999998}}, ints(499999999, 499999999), 1, nil, ints(1999999997, 1999999997)},
	} {
		settled(t, i, ranked(c.proceeds, c.of...), c.pays, c.rest, c.sure, c.needs)
	}
}

// TestSpans is P11.5: spans that are wide, and claims that are sure, or are not by a cent.
func TestSpans(t *testing.T) {
	for i, c := range []struct {
		x      api.ClEstate
		ranges []api.Span
		sure   []int
		needs  []int
	}{
		{estateOf(0, 9, claimOf("a", 1, 2, 4)), []api.Span{span(0, 4)}, nil, ints(4)},
		{estateOf(3, 9, claimOf("a", 1, 2, 4)), []api.Span{span(2, 4)}, nil, ints(4)},
		{estateOf(4, 9, claimOf("a", 1, 2, 4)), []api.Span{span(2, 4)}, ints(0), ints(4)},
		{estateOf(4, 4, claimOf("a", 1, 0, 4)), []api.Span{span(0, 4)}, ints(0), ints(4)},
		{estateOf(4, 4, claimOf("a", 1, 0, 5)), []api.Span{span(0, 4)}, nil, ints(5)},
		// A later claim is sure just if all that comes first surely is paid.
		{estateOf(9, 20, claimOf("a", 1, 2, 4), claimOf("b", 2, 5, 5)), []api.Span{span(2, 4), span(5, 5)}, ints(0, 1), ints(4, 9)},
		{estateOf(8, 20, claimOf("a", 1, 2, 4), claimOf("b", 2, 5, 5)), []api.Span{span(2, 4), span(4, 5)}, ints(0), ints(4, 9)},
		{estateOf(3, 20, claimOf("a", 1, 2, 4), claimOf("b", 2, 5, 5)), []api.Span{span(2, 4), span(0, 5)}, nil, ints(4, 9)},
		{estateOf(9, 20, claimOf("b", 2, 5, 5), claimOf("a", 1, 2, 4)), []api.Span{span(5, 5), span(2, 4)}, ints(0, 1), ints(9, 4)},
		// Claims of the same rank: what others can be counts.
		{estateOf(10, 10, claimOf("a", 1, 4, 6), claimOf("b", 1, 4, 4)), []api.Span{span(4, 6), span(4, 4)}, ints(0, 1), ints(10, 10)},
		{estateOf(9, 9, claimOf("a", 1, 4, 6), claimOf("b", 1, 4, 4)), []api.Span{span(4, 5), span(3, 4)}, nil, ints(10, 10)},
		{estateOf(6, 6, claimOf("a", 1, 0, 6), claimOf("b", 1, 0, 6)), []api.Span{span(0, 6), span(0, 6)}, nil, ints(12, 12)},
		{estateOf(6, 6, claimOf("a", 1, 6, 6), claimOf("b", 1, 0, 6)), []api.Span{span(3, 6), span(0, 3)}, nil, ints(12, 12)},
		// Claims of later ranks count for nobody before them.
		{estateOf(5, 5, claimOf("a", 2, 5, 5), claimOf("b", 3, 0, billion)), []api.Span{span(5, 5), span(0, 0)}, ints(0), ints(5, billion+5)},
		{estateOf(5, 5, claimOf("a", 2, 5, 5), claimOf("b", 2, 0, billion)), []api.Span{span(0, 5), span(0, 4)}, nil, ints(billion+5, billion+5)},
		// Claims that can be 0 cents, or are.
		{estateOf(0, 0, claimOf("a", 1, 0, 1), claimOf("b", 2, 0, 0)), []api.Span{span(0, 0), span(0, 0)}, ints(1), ints(1, 0)},
		{estateOf(0, 1, claimOf("a", 1, 0, 1), claimOf("b", 1, 0, 0), claimOf("c", 5, 0, 1)), []api.Span{span(0, 1), span(0, 0), span(0, 1)}, ints(1), ints(1, 0, 2)},
		{estateOf(1, 1, claimOf("a", 1, 0, 1), claimOf("b", 1, 0, 0), claimOf("c", 5, 0, 1)), []api.Span{span(0, 1), span(0, 0), span(0, 1)}, ints(0, 1), ints(1, 0, 2)},
		{estateOf(2, 2, claimOf("a", 1, 0, 1), claimOf("b", 1, 0, 0), claimOf("c", 5, 0, 1)), []api.Span{span(0, 1), span(0, 0), span(0, 1)}, ints(0, 1, 2), ints(1, 0, 2)},
		// By rounding nobody gets a cent more than without it.
		{estateOf(2, 3, claimOf("a", 1, 1, 2), claimOf("b", 1, 1, 2), claimOf("c", 2, 1, 1)), []api.Span{span(0, 2), span(0, 2), span(0, 1)}, nil, ints(4, 4, 5)},
		{estateOf(0, billion, claimOf("a", 5, 0, billion)), []api.Span{span(0, billion)}, nil, ints(billion)},
	} {
		rangesAre(t, i, c.x, c.ranges, api.OK)
		sureIs(t, i, c.x, c.sure, api.OK)
		for claim, want := range c.needs {
			leastIs(t, i, c.x, claim, want, api.OK)
		}
	}
}

// TestLeastLooksAtNoProceeds is P11.5: Least is the same whatever the proceeds of the estate are.
func TestLeastLooksAtNoProceeds(t *testing.T) {
	for _, proceeds := range []api.Span{span(0, 0), span(0, billion), span(1500, 1500), span(billion, billion)} {
		x := sampleE()
		x.Proceeds = proceeds
		for i, want := range ints(400, 1500, 1500, 1600) {
			leastIs(t, proceeds, x, i, want, api.OK)
		}
	}
}

// TestCost is P11.6: a further claim of an earlier rank, of the same, of a later one, and of 0 cents.
func TestCost(t *testing.T) {
	x := ranked(100, [2]int{2, 50}, [2]int{3, 30}, [2]int{3, 60}, [2]int{5, 9}) // 50, 16, 33 and 0, rest 1
	for i, c := range []struct {
		rank, cents int
		want        []int
	}{
		{1, 0, ints(0, 0, 0, 0)},
		{3, 0, ints(0, 0, 0, 0)},
		{5, 0, ints(0, 0, 0, 0)},
		{1, 1, ints(0, 0, 1, 0)}, // 49 for 90
		{1, 20, ints(0, 6, 13, 0)},
		{1, 49, ints(0, 16, 33, 0)},
		{1, 50, ints(0, 16, 33, 0)},
		{1, 51, ints(1, 16, 33, 0)},
		{1, 100, ints(50, 16, 33, 0)},
		{1, 101, ints(50, 16, 33, 0)},
		{1, billion, ints(50, 16, 33, 0)},
		{2, 1, ints(0, 0, 1, 0)},
		{2, 50, ints(0, 16, 33, 0)},
		{2, 51, ints(1, 16, 33, 0)},
		{2, billion, ints(50, 16, 33, 0)},
		{3, 1, ints(0, 0, 1, 0)},  // 16 and 32 of 91
		{3, 10, ints(0, 1, 3, 0)}, // 15 and 30 of 100
		{3, billion, ints(0, 16, 33, 0)},
		{4, 1, ints(0, 0, 0, 0)},
		{5, billion, ints(0, 0, 0, 0)},
	} {
		costIs(t, i, x, only(x), claimOf("tug", c.rank, c.cents, c.cents), c.want, api.OK)
	}
	rich := ranked(100, [2]int{2, 20}, [2]int{4, 30}) // rest 50
	for i, c := range []struct {
		rank, cents int
		want        []int
	}{
		{1, 50, ints(0, 0)},
		{1, 51, ints(0, 1)},
		{2, 50, ints(0, 0)},
		{2, 51, ints(0, 1)},
		{3, 81, ints(0, 30)},
		{4, 50, ints(0, 0)},
		{4, 51, ints(0, 1)}, // 80 times 30 by 81 is 29
		{5, 51, ints(0, 0)},
		{5, billion, ints(0, 0)},
	} {
		costIs(t, i, rich, only(rich), claimOf("tug", c.rank, c.cents, c.cents), c.want, api.OK)
	}
	none := ranked(0, [2]int{2, 20}, [2]int{4, 0})
	costIs(t, "no proceeds", none, only(none), claimOf("tug", 1, 5, 5), ints(0, 0), api.OK)
	wide := estateOf(0, 100, claimOf("a", 1, 0, 100))
	costIs(t, "in this truth", wide, truthOf(60, 40), claimOf("tug", 1, 40, 40), ints(10), api.OK)
	costIs(t, "in another one", wide, truthOf(80, 40), claimOf("tug", 1, 40, 40), ints(0), api.OK)
}
