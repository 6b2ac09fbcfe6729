package grade_test

import (
	"math/big"
	"testing"

	"orlop/api"
)

// TestExamples is the examples of the chapter, and example 8 of the document.
func TestExamples(t *testing.T) {
	h, p, q := sampleH(), sampleP(), sampleQ()
	waysAre(t, 10, 3, 120, api.OK)
	waysAre(t, 5, 6, 0, api.ErrRange)
	showsIs(t, h, 3, 3, shares(7, 24, 21, 40, 7, 40, 1, 120), api.OK)
	passesIs(t, h, p, share(1, 6), share(7, 15), api.OK)
	passesIs(t, h, q, share(47, 210), share(11, 15), api.OK)
	smallestIs(t, h, 0, share(1, 3), 4, api.OK)
	smallestIs(t, h, 0, share(33, 100), 5, api.OK)
	smallestIs(t, h, 0, share(0, 1), 9, api.OK)
	priceIs(t, h, ints(900, 600, 300, 0), share(540, 1), share(720, 1), api.OK)
	leftIs(t, h, 3, 1, span(1, 3), api.OK)
	leftIs(t, h, 3, 0, span(2, 4), api.OK)
	leftIs(t, h, 8, 0, span(2, 2), api.OK)
	worstIs(t, h, p, 2, share(14, 15), api.OK)
	worstIs(t, h, q, 2, share(6, 5), api.OK)
	passesIs(t, heap(10, 2, 2), p, share(7, 15), share(7, 15), api.OK)
}

// TestShows is P8.2: what samples show, told one by one.
func TestShows(t *testing.T) {
	for _, c := range []struct {
		h      api.GrHeap
		bad, n int
		want   []api.GrShare
	}{
		{sampleH(), 2, 0, shares(1, 1)},
		{sampleH(), 4, 1, shares(3, 5, 2, 5)},
		{sampleH(), 2, 3, shares(7, 15, 7, 15, 1, 15, 0, 1)}, // no more bad pieces than there are
		{sampleH(), 3, 10, shares(0, 1, 0, 1, 0, 1, 1, 1, 0, 1, 0, 1, 0, 1, 0, 1, 0, 1, 0, 1, 0, 1)},
		{heap(10, 8, 8), 8, 5, shares(0, 1, 0, 1, 0, 1, 2, 9, 5, 9, 2, 9)}, // no fewer than there must be
		{heap(1, 0, 1), 0, 0, shares(1, 1)},
		{heap(1, 0, 1), 0, 1, shares(1, 1, 0, 1)},
		{heap(1, 0, 1), 1, 1, shares(0, 1, 1, 1)},
		{heap(4, 0, 4), 0, 2, shares(1, 1, 0, 1, 0, 1)},
		{heap(4, 0, 4), 2, 2, shares(1, 6, 2, 3, 1, 6)},
		{heap(4, 0, 4), 4, 2, shares(0, 1, 0, 1, 1, 1)},
		{heap(20, 0, 20), 10, 2, shares(9, 38, 10, 19, 9, 38)},
		{heap(20, 10, 10), 10, 10, shares(1, 184756, 25, 46189, 2025, 184756, 3600, 46189, 11025, 46189, 15876, 46189, 11025, 46189, 3600, 46189, 2025, 184756, 25, 46189, 1, 184756)},
	} {
		showsIs(t, c.h, c.bad, c.n, c.want, api.OK)
	}
}

// TestAllShows is P8.2 and P8.7: all samples of all heaps, counted by ways to choose.
func TestAllShows(t *testing.T) {
	for pieces := 1; pieces <= api.MaxGrPieces; pieces++ {
		for bad := range pieces + 1 {
			for n := range pieces + 1 {
				var want []api.GrShare
				for shown := range n + 1 {
					want = append(want, told(chance(pieces, bad, n, shown)))
				}
				showsIs(t, heap(pieces, bad/2, bad), bad, n, want, api.OK)
				showsIs(t, heap(pieces, bad, pieces), bad, n, want, api.OK)
			}
		}
	}
}

// TestPasses is P8.3: how often heaps pass, told one by one.
func TestPasses(t *testing.T) {
	for _, c := range []struct {
		h         api.GrHeap
		p         api.GrPlan
		low, high api.GrShare
	}{
		{heap(1, 0, 1), single(1, 0), share(0, 1), share(1, 1)},
		{heap(1, 0, 1), single(1, 1), share(1, 1), share(1, 1)},
		{heap(1, 1, 1), single(1, 0), share(0, 1), share(0, 1)},
		{heap(5, 0, 0), single(3, 0), share(1, 1), share(1, 1)},
		{heap(5, 0, 5), single(3, 0), share(0, 1), share(1, 1)},
		{heap(5, 5, 5), single(3, 2), share(0, 1), share(0, 1)},
		{heap(5, 5, 5), single(3, 3), share(1, 1), share(1, 1)},
		{sampleH(), single(10, 2), share(0, 1), share(1, 1)},
		{sampleH(), single(10, 3), share(0, 1), share(1, 1)},
		{sampleH(), single(10, 4), share(1, 1), share(1, 1)},
		{sampleH(), single(1, 0), share(3, 5), share(4, 5)},
		{heap(10, 2, 2), plan(3, 0, 2, 3, 1), share(11, 15), share(11, 15)},
		{heap(10, 2, 2), plan(3, 0, 2, 3, 2), share(14, 15), share(14, 15)},  // what the second one shows does not matter
		{heap(10, 2, 2), plan(3, 0, 2, 3, 10), share(14, 15), share(14, 15)}, // two in the first sample fail
		{heap(10, 2, 2), plan(3, 0, 2, 3, 0), share(7, 15), share(7, 15)},
		{heap(10, 2, 2), plan(3, 0, 3, 3, 2), share(1, 1), share(1, 1)},
		{heap(10, 2, 2), plan(3, 0, 3, 7, 1), share(7, 15), share(7, 15)}, // both samples show all bad pieces
		{heap(10, 2, 2), plan(3, 0, 3, 7, 2), share(1, 1), share(1, 1)},
		{heap(4, 2, 2), plan(2, 0, 2, 1, 1), share(1, 2), share(1, 2)},
		{heap(20, 7, 7), plan(7, 1, 4, 6, 3), share(4951, 19380), share(4951, 19380)},
	} {
		passesIs(t, c.h, c.p, c.low, c.high, api.OK)
	}
}

// TestSmallest is P8.3: how large samples have to be, told one by one.
func TestSmallest(t *testing.T) {
	for _, c := range []struct {
		h    api.GrHeap
		pass int
		most api.GrShare
		want int
	}{
		{sampleH(), 0, share(1, 1), 1},
		{sampleH(), 0, share(4, 5), 1},
		{sampleH(), 0, share(799999, 1000000), 2},
		{sampleH(), 0, share(800000, 1000000), 1},
		{sampleH(), 0, share(7, 15), 3},
		{sampleH(), 0, share(466666, 1000000), 4},
		{sampleH(), 0, share(466667, 1000000), 3},
		{sampleH(), 0, share(1, 1000000), 9},
		{sampleH(), 0, share(0, 1000000), 9},
		{sampleH(), 1, share(0, 1), 10},
		{sampleH(), 1, share(1, 5), 9},
		{sampleH(), 1, share(2, 10), 9},
		{sampleH(), 1, share(199999, 1000000), 10},
		{sampleH(), 1, share(999999, 1000000), 2},
		{sampleH(), 1, share(1, 1), 1},
		{sampleH(), 2, share(1, 1), 1},
		{sampleH(), 10, share(1, 1), 1},
		{sampleH(), 10, share(1000000, 1000000), 1},
		{heap(1, 1, 1), 0, share(0, 1), 1},
		{heap(1, 0, 1), 0, share(1, 1), 1},
		{heap(20, 20, 20), 0, share(0, 1), 1},
		{heap(20, 20, 20), 18, share(0, 1), 19},
		{heap(20, 20, 20), 19, share(0, 1), 20},
		{heap(20, 1, 20), 0, share(1, 2), 10},
		{heap(20, 1, 20), 0, share(499999, 1000000), 11},
		{heap(20, 1, 20), 0, share(0, 1), 20},
	} {
		smallestIs(t, c.h, c.pass, c.most, c.want, api.OK)
	}
	for _, h := range []api.GrHeap{heap(1, 0, 1), heap(10, 0, 10), heap(10, 0, 0), heap(20, 0, 20)} {
		smallestIs(t, h, 0, share(999999, 1000000), 0, api.ErrDown) // without a bad piece it always passes
	}
	smallestIs(t, heap(20, 20, 20), 20, share(999999, 1000000), 0, api.ErrDown)
	smallestIs(t, heap(20, 19, 20), 19, share(999999, 1000000), 0, api.ErrDown)
}

// TestPrice is P8.4: what heaps bring, told one by one.
func TestPrice(t *testing.T) {
	for _, c := range []struct {
		h         api.GrHeap
		pays      []int
		low, high api.GrShare
	}{
		{sampleH(), ints(700), share(700, 1), share(700, 1)},
		{sampleH(), ints(0), share(0, 1), share(0, 1)},
		{sampleH(), ints(0, 0, 0), share(0, 1), share(0, 1)},
		{sampleH(), ints(10, 0), share(6, 1), share(8, 1)},
		{sampleH(), ints(0, 10), share(2, 1), share(4, 1)},
		{sampleH(), ints(0, 1), share(1, 5), share(2, 5)},
		{heap(3, 1, 2), ints(10, 20, 30, 40), share(20, 1), share(30, 1)},
		{heap(3, 1, 2), ints(0, 1), share(1, 3), share(2, 3)},
		{heap(1, 0, 1), ints(5, 3), share(3, 1), share(5, 1)},
		{heap(1, 0, 1), ints(3, 5), share(3, 1), share(5, 1)},
		{heap(4, 0, 4), ints(0, 100000, 0), share(0, 1), share(200000, 3)}, // most with 2 bad pieces
		{heap(4, 1, 3), ints(1, 0, 1), share(1, 3), share(1, 2)},           // least with 2
		{heap(20, 0, 20), ints(100000, 100000, 100000), share(100000, 1), share(100000, 1)},
		{heap(20, 10, 10), ints(100000, 0, 0, 0, 0, 0, 0, 0, 0, 0, 99999), share(199999, 184756), share(199999, 184756)},
	} {
		priceIs(t, c.h, c.pays, c.low, c.high, api.OK)
	}
	for bad := range 21 {
		var pays []int
		for n := range 21 {
			pays = append(pays, 5000*n)
		}
		priceIs(t, heap(20, bad, bad), pays, share(5000*bad, 1), share(5000*bad, 1), api.OK)
	}
}

// TestLeft is P8.4: what samples leave, told one by one.
func TestLeft(t *testing.T) {
	for _, c := range []struct {
		h        api.GrHeap
		n, shown int
		want     api.Span
		e        api.Errno
	}{
		{sampleH(), 0, 0, span(2, 4), api.OK},
		{sampleH(), 3, 2, span(0, 2), api.OK},
		{sampleH(), 3, 3, span(0, 1), api.OK},
		{sampleH(), 4, 4, span(0, 0), api.OK},
		{sampleH(), 5, 5, span(0, 0), api.ErrDown},
		{sampleH(), 7, 0, span(2, 3), api.OK},
		{sampleH(), 6, 0, span(2, 4), api.OK},
		{sampleH(), 9, 0, span(0, 0), api.ErrDown},
		{sampleH(), 9, 1, span(1, 1), api.OK}, // of one heap alone
		{sampleH(), 9, 2, span(0, 1), api.OK},
		{sampleH(), 9, 4, span(0, 0), api.OK},
		{sampleH(), 10, 1, span(0, 0), api.ErrDown},
		{sampleH(), 10, 2, span(0, 0), api.OK},
		{sampleH(), 10, 4, span(0, 0), api.OK},
		{sampleH(), 10, 5, span(0, 0), api.ErrDown},
		{heap(1, 0, 1), 0, 0, span(0, 1), api.OK},
		{heap(1, 0, 1), 1, 0, span(0, 0), api.OK},
		{heap(1, 0, 1), 1, 1, span(0, 0), api.OK},
		{heap(1, 0, 0), 1, 1, span(0, 0), api.ErrDown},
		{heap(1, 1, 1), 1, 0, span(0, 0), api.ErrDown},
		{heap(20, 0, 20), 10, 0, span(0, 10), api.OK},
		{heap(20, 0, 20), 10, 10, span(0, 10), api.OK},
		{heap(20, 0, 20), 10, 4, span(0, 10), api.OK},
		{heap(20, 7, 20), 10, 4, span(3, 10), api.OK},
		{heap(20, 20, 20), 0, 0, span(20, 20), api.OK},
	} {
		leftIs(t, c.h, c.n, c.shown, c.want, c.e)
	}
}

// TestWorst is P8.5: with how many bad pieces most stay, told one by one.
func TestWorst(t *testing.T) {
	for _, c := range []struct {
		h     api.GrHeap
		p     api.GrPlan
		bad   int
		stays api.GrShare
	}{
		{heap(1, 0, 1), single(1, 0), 0, share(0, 1)},
		{heap(1, 1, 1), single(1, 1), 1, share(0, 1)},
		{heap(5, 0, 0), single(3, 0), 0, share(0, 1)},
		{heap(5, 0, 5), single(1, 0), 2, share(6, 5)}, // as much stays with 3
		{heap(5, 3, 5), single(1, 0), 3, share(6, 5)},
		{heap(5, 1, 4), single(1, 0), 2, share(6, 5)},
		{heap(5, 4, 5), single(1, 0), 4, share(4, 5)},
		{heap(5, 5, 5), single(1, 0), 5, share(0, 1)},
		{heap(4, 0, 4), single(4, 4), 0, share(0, 1)}, // with none of them anything stays
		{heap(4, 2, 4), single(4, 0), 2, share(0, 1)},
		{heap(10, 0, 10), single(3, 3), 10, share(7, 1)}, // it always passes
		{sampleH(), single(3, 3), 4, share(14, 5)},
		{heap(10, 0, 10), single(3, 0), 2, share(14, 15)},
		{heap(10, 2, 2), plan(3, 0, 2, 3, 1), 2, share(6, 5)},
		{heap(10, 2, 2), plan(3, 0, 2, 3, 2), 2, share(6, 5)}, // with one in each sample nothing is left
		{heap(10, 2, 2), plan(3, 0, 2, 7, 2), 2, share(14, 15)},
		{heap(10, 2, 2), plan(3, 0, 3, 7, 2), 2, share(14, 15)},
		{heap(4, 0, 4), plan(1, 0, 2, 3, 4), 2, share(1, 1)},
	} {
		worstIs(t, c.h, c.p, c.bad, c.stays, api.OK)
	}
}

// ofHeap is the chances to pass, and what stays, with each number of Bad.
func ofHeap(h api.GrHeap, p api.GrPlan, by func(pieces, bad int, p api.GrPlan) (passes, stays *big.Rat)) (passes, stays []*big.Rat) {
	for bad := h.Bad.Lo; bad <= h.Bad.Hi; bad++ {
		x, y := by(h.Pieces, bad, p)
		passes, stays = append(passes, x), append(stays, y)
	}
	return passes, stays
}

// plansAgree checks Passes and Worst against the chances to pass and what stays with each number of Bad.
func plansAgree(t *testing.T, h api.GrHeap, p api.GrPlan, passes, stays []*big.Rat) {
	t.Helper()
	low, high := ends(passes)
	passesIs(t, h, p, told(low), told(high), api.OK)
	worst := 0
	for i, x := range stays {
		if x.Cmp(stays[worst]) > 0 {
			worst = i
		}
	}
	worstIs(t, h, p, h.Bad.Lo+worst, told(stays[worst]), api.OK)
}
