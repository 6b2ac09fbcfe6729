package grade_test

import (
	"testing"

	"orlop/api"
)

// failsWith checks that all functions with a heap but Check return an error and nothing else, whatever else they are handed.
func failsWith(t *testing.T, h api.GrHeap, f api.Errno) {
	t.Helper()
	none := share(0, 0)
	for _, p := range []api.GrPlan{{}, sampleP(), sampleQ(), single(1, 0), single(2, -1), plan(1, 0, 1, 1, 0), plan(least, greatest, least, greatest, least)} {
		checkPlanIs(t, h, p, f)
		passesIs(t, h, p, none, none, f)
		worstIs(t, h, p, 0, none, f)
	}
	for _, n := range ints(0, 1, 2, 21, -1, least, greatest) {
		for _, m := range ints(0, 1, 2, 21, -1, least, greatest) {
			showsIs(t, h, n, m, nil, f)
			leftIs(t, h, n, m, span(0, 0), f)
		}
		for _, s := range shares(0, 1, 1, 1, 0, 0, 1, 0, 1, -1, 2, 1, greatest, greatest) {
			smallestIs(t, h, n, s, 0, f)
		}
	}
	for _, pays := range [][]int{nil, {0}, {5, 6}, {-1}, {api.MaxGrPay + 1}, make([]int, 30)} {
		priceIs(t, h, pays, none, none, f)
	}
}

// TestCheck is P8.1 and the first sentence of the promises: each heap with numbers about the limits.
func TestCheck(t *testing.T) {
	met := map[api.Errno]int{}
	for pieces := -1; pieces <= 22; pieces++ {
		for lo := -1; lo <= 22; lo++ {
			for hi := -1; hi <= 22; hi++ {
				want := api.OK
				switch {
				case pieces < 1 || pieces > 20 || lo < 0 || lo > pieces || hi < 0 || hi > pieces:
					want = api.ErrRange
				case lo > hi:
					want = api.ErrArg
				}
				h := heap(pieces, lo, hi)
				checkIs(t, h, want)
				if met[want]++; want != api.OK && met[want]%20 == 0 {
					failsWith(t, h, want)
				}
			}
		}
	}
	enough(t, "heaps without an error", met[api.OK], 1000)
	enough(t, "turned spans", met[api.ErrArg], 1000)
	if api.MaxGrPieces != 20 || api.MaxGrPay != 100000 || api.MaxGrShare != 1000000 {
		t.Error("the limits are not those of the chapter")
	}
}

// TestCheckEdges is P8.1: the edges of heaps, told one by one.
func TestCheckEdges(t *testing.T) {
	for _, c := range []struct {
		h api.GrHeap
		e api.Errno
	}{
		{api.GrHeap{}, api.ErrRange},
		{heap(0, 0, 0), api.ErrRange},
		{heap(1, 0, 0), api.OK},
		{heap(1, 0, 1), api.OK},
		{heap(1, 1, 1), api.OK},
		{heap(1, 1, 0), api.ErrArg},
		{heap(1, 1, 2), api.ErrRange},
		{heap(1, -1, 1), api.ErrRange},
		{heap(10, 4, 2), api.ErrArg},
		{heap(10, 11, 2), api.ErrRange}, // before Lo is above Hi
		{heap(10, 4, -1), api.ErrRange},
		{heap(20, 0, 20), api.OK},
		{heap(20, 20, 20), api.OK},
		{heap(20, 0, 21), api.ErrRange},
		{heap(21, 0, 20), api.ErrRange},
		{heap(21, 3, 2), api.ErrRange},
	} {
		checkIs(t, c.h, c.e)
		if c.e != api.OK {
			failsWith(t, c.h, c.e)
		}
	}
	for _, n := range far() {
		for _, h := range []api.GrHeap{heap(n, 0, 0), heap(10, n, 4), heap(10, 2, n), heap(n, n, n)} {
			checkIs(t, h, api.ErrRange)
			failsWith(t, h, api.ErrRange)
		}
	}
}

// planError is the error of a plan for a heap of so many pieces, by the chapter's words.
func planError(pieces int, p api.GrPlan) api.Errno {
	switch {
	case out(p.First, 1, pieces) || out(p.Pass, 0, p.First) || out(p.Fail, p.Pass+1, p.First+1) || out(p.Second, 0, pieces-p.First) || out(p.Total, 0, pieces):
		return api.ErrRange
	case p.Second == 0 && (p.Fail != p.Pass+1 || p.Total != 0):
		return api.ErrArg
	case p.Second != 0 && (p.Fail == p.Pass+1 || p.Total < p.Pass):
		return api.ErrArg
	}
	return api.OK
}

// planFails checks the error of a plan, and that the functions with one return it and nothing else.
func planFails(t *testing.T, h api.GrHeap, p api.GrPlan, f api.Errno) {
	t.Helper()
	checkPlanIs(t, h, p, f)
	if f != api.OK {
		passesIs(t, h, p, share(0, 0), share(0, 0), f)
		worstIs(t, h, p, 0, share(0, 0), f)
	}
}

// TestCheckPlan is P8.1: each plan with numbers about the limits of small heaps, and the number of plans without an error.
func TestCheckPlan(t *testing.T) {
	for pieces := 1; pieces <= 4; pieces++ {
		met := map[api.Errno]int{}
		for n := range 8 * 8 * 8 * 8 * 8 {
			p := plan(n&7-1, n>>3&7-1, n>>6&7-1, n>>9&7-1, n>>12&7-1)
			want := planError(pieces, p)
			met[want]++
			planFails(t, heap(pieces, 0, pieces), p, want)
		}
		if n := len(allPlans(pieces)); met[api.OK] != n {
			t.Errorf("%d pieces: %d plans have no error; want %d", pieces, met[api.OK], n)
		}
		enough(t, "plans with ErrArg", met[api.ErrArg], pieces)
	}
}

// TestCheckPlanEdges is P8.1: the edges of plans, told one by one.
func TestCheckPlanEdges(t *testing.T) {
	h := heap(10, 2, 4)
	for _, c := range []struct {
		p api.GrPlan
		e api.Errno
	}{
		{sampleP(), api.OK},
		{sampleQ(), api.OK},
		{api.GrPlan{}, api.ErrRange},
		{single(0, 0), api.ErrRange},
		{single(1, 0), api.OK},
		{single(10, 0), api.OK},
		{single(11, 0), api.ErrRange},
		{single(10, 10), api.OK},
		{single(10, 11), api.ErrRange},
		{single(3, 3), api.OK},
		{single(3, 4), api.ErrRange},
		{single(3, -1), api.ErrRange},
		{plan(3, 1, 1, 0, 0), api.ErrRange},
		{plan(3, 1, 2, 0, 0), api.OK},
		{plan(3, 1, 3, 0, 0), api.ErrArg}, // Second 0 with another Fail
		{plan(3, 1, 4, 0, 0), api.ErrArg},
		{plan(3, 1, 5, 0, 0), api.ErrRange},
		{plan(3, 1, 2, 0, 1), api.ErrArg}, // Second 0 with another Total
		{plan(3, 1, 2, 0, 10), api.ErrArg},
		{plan(3, 1, 2, 0, 11), api.ErrRange},
		{plan(3, 1, 2, 0, -1), api.ErrRange},
		{plan(3, 1, 3, -1, 0), api.ErrRange}, // before Fail with Second 0
		{plan(3, 1, 2, 1, 1), api.ErrArg},    // Second above 0 with Fail just Pass and 1
		{plan(3, 1, 3, 1, 1), api.OK},
		{plan(3, 1, 3, 1, 0), api.ErrArg}, // Total below Pass
		{plan(3, 1, 2, 1, 0), api.ErrArg},
		{plan(3, 1, 4, 1, 1), api.OK},
		{plan(3, 1, 5, 1, 1), api.ErrRange},
		{plan(3, 1, 3, 7, 1), api.OK},
		{plan(3, 1, 3, 8, 1), api.ErrRange},
		{plan(3, 1, 3, 7, 10), api.OK},
		{plan(3, 1, 3, 7, 11), api.ErrRange},
		{plan(3, 1, 3, 7, -1), api.ErrRange},
		{plan(3, 3, 4, 7, 3), api.ErrArg}, // nothing between Pass and Fail
		{plan(10, 3, 5, 0, 3), api.ErrArg},
		{plan(10, 3, 5, 1, 3), api.ErrRange},
		{plan(9, 3, 5, 1, 3), api.OK},
	} {
		planFails(t, h, c.p, c.e)
	}
	for _, n := range far() {
		for _, p := range []api.GrPlan{plan(n, 0, 1, 0, 0), plan(3, n, 1, 0, 0), plan(3, 0, n, 0, 0), plan(3, 0, 1, n, 0), plan(3, 0, 1, 0, n), plan(3, 0, 2, 3, n), single(3, n), single(n, n), plan(n, n, n, n, n)} {
			planFails(t, h, p, api.ErrRange)
		}
	}
}

// TestWays is P8.1: each number of things, and those about the limits.
func TestWays(t *testing.T) {
	for n := -3; n <= 24; n++ {
		for k := -3; k <= 27; k++ {
			if n < 0 || n > 20 || k < 0 || k > n {
				waysAre(t, n, k, 0, api.ErrRange)
			} else {
				waysAre(t, n, k, int(ways(n, k).Int64()), api.OK)
			}
		}
	}
	for _, n := range far() {
		waysAre(t, n, 0, 0, api.ErrRange)
		waysAre(t, 20, n, 0, api.ErrRange)
		waysAre(t, n, n, 0, api.ErrRange)
	}
	waysAre(t, 0, 0, 1, api.OK)
	waysAre(t, 20, 0, 1, api.OK)
	waysAre(t, 20, 1, 20, api.OK)
	waysAre(t, 20, 10, 184756, api.OK)
	waysAre(t, 20, 20, 1, api.OK)
	waysAre(t, 20, 21, 0, api.ErrRange)
	waysAre(t, 21, 1, 0, api.ErrRange)
}

// TestErrorsOfShows is P8.2.
func TestErrorsOfShows(t *testing.T) {
	h := sampleH()
	for _, c := range [][2]int{{1, 3}, {5, 3}, {0, 3}, {10, 3}, {3, -1}, {3, 11}, {1, 11}} {
		showsIs(t, h, c[0], c[1], nil, api.ErrRange)
	}
	for _, n := range far() {
		showsIs(t, h, n, 3, nil, api.ErrRange)
		showsIs(t, h, 3, n, nil, api.ErrRange)
	}
	showsIs(t, heap(20, 0, 20), 20, 21, nil, api.ErrRange)
	showsIs(t, heap(20, 0, 20), 21, 20, nil, api.ErrRange)
	showsIs(t, heap(20, 0, 20), 0, 0, shares(1, 1), api.OK)
}

// TestErrorsOfSmallest is P8.3: each error before the next one.
func TestErrorsOfSmallest(t *testing.T) {
	h := sampleH()
	for _, pass := range append(far(), 11) {
		smallestIs(t, h, pass, share(1, 1), 0, api.ErrRange)
		smallestIs(t, h, pass, share(1, 0), 0, api.ErrRange) // before the share
	}
	for _, s := range shares(0, 0, 1, 0, 1, -1, -1, -1, 0, 1000001, 1, 1000001, 1000001, 1000001, -1, 1, -1, 1000000, 2, 1, 1000001, 1000000, 4, 3) {
		for pass := range 11 {
			smallestIs(t, h, pass, s, 0, api.ErrForm) // before that there is no such sample
		}
	}
	for _, n := range far() {
		smallestIs(t, h, 0, share(n, 10), 0, api.ErrForm)
		smallestIs(t, h, 0, share(0, n), 0, api.ErrForm)
		smallestIs(t, h, 0, share(n, n), 0, api.ErrForm)
	}
	for _, s := range shares(0, 1, 1, 2, 0, 1000000, 999999, 1000000) {
		for pass := 2; pass <= 10; pass++ {
			smallestIs(t, h, pass, s, 0, api.ErrDown)
		}
	}
}

// TestErrorsOfPrice is P8.4: each error before the next one.
func TestErrorsOfPrice(t *testing.T) {
	none := share(0, 0)
	for _, pieces := range ints(1, 2, 10, 20) {
		h := heap(pieces, 0, pieces)
		for _, pays := range [][]int{nil, {}, make([]int, pieces+2), append(make([]int, pieces+1), -1), make([]int, 100000)} {
			priceIs(t, h, pays, none, none, api.ErrLong)
		}
		for _, pays := range [][]int{{0}, {100000}, make([]int, pieces+1)} {
			priceIs(t, h, pays, share(pays[0], 1), share(pays[0], 1), api.OK)
		}
		for _, n := range append(far(), 100001) {
			for size := 1; size <= pieces+1; size++ {
				first, last := make([]int, size), make([]int, size)
				first[0], last[size-1] = n, n
				priceIs(t, h, first, none, none, api.ErrRange)
				priceIs(t, h, last, none, none, api.ErrRange)
			}
		}
	}
	priceIs(t, sampleH(), ints(0, 0, 0, 0, 0, 0, -1), none, none, api.ErrRange) // also of what is never shown
}

// TestErrorsOfLeft is P8.4: each error before the next one.
func TestErrorsOfLeft(t *testing.T) {
	h := sampleH()
	for _, c := range [][2]int{{-1, 0}, {-1, -1}, {11, 0}, {11, 11}, {11, 3}, {3, -1}, {3, 4}, {0, 1}, {10, 11}} {
		leftIs(t, h, c[0], c[1], span(0, 0), api.ErrRange)
	}
	for _, n := range far() {
		leftIs(t, h, n, 0, span(0, 0), api.ErrRange)
		leftIs(t, h, 3, n, span(0, 0), api.ErrRange)
		leftIs(t, h, n, n, span(0, 0), api.ErrRange)
	}
	for _, c := range [][2]int{{5, 5}, {10, 5}, {10, 10}, {10, 1}, {10, 0}, {9, 0}} {
		leftIs(t, h, c[0], c[1], span(0, 0), api.ErrDown)
	}
}
