package grade_test

import (
	"math/big"
	"math/rand/v2"
	"slices"
	"testing"

	"orlop/api"
	"orlop/grade"
)

// TestAgainstSets is P8.3 and P8.5: all plans of small heaps; all pairs of samples are looked at.
func TestAgainstSets(t *testing.T) {
	for pieces := 1; pieces <= 5; pieces++ {
		whole := heap(pieces, 0, pieces)
		for _, p := range allPlans(pieces) {
			passes, stays := ofHeap(whole, p, sortedBySets)
			for lo := range pieces + 1 {
				for hi := lo; hi <= pieces; hi++ {
					plansAgree(t, heap(pieces, lo, hi), p, passes[lo:hi+1], stays[lo:hi+1])
				}
			}
		}
	}
}

// TestAgainstChances is P8.3 and P8.5: plans of any heaps; what each sample could show is looked at.
func TestAgainstChances(t *testing.T) {
	twice, between := 0, 0
	many(t, 1000, func(r *rand.Rand) {
		h := randomHeap(r, api.MaxGrPieces)
		p := randomPlan(r, h)
		passes, stays := ofHeap(h, p, sorted)
		plansAgree(t, h, p, passes, stays)
		if p.Second > 0 {
			twice++
		}
		if bad, _, _ := grade.Worst(h, p); bad > h.Bad.Lo && bad < h.Bad.Hi {
			between++
		}
	})
	enough(t, "plans with two samples", twice, 400)
	enough(t, "worst numbers between both ends", between, 100)
}

// showsOf is the chances of Shows as numbers.
func showsOf(t *testing.T, h api.GrHeap, bad, n int) (l []*big.Rat) {
	t.Helper()
	shows, e := grade.Shows(h, bad, n)
	if e != api.OK || len(shows) != n+1 {
		t.Fatalf("Shows of %v, %d, %d = %v, %d", h, bad, n, shows, e)
	}
	for _, s := range shows {
		l = append(l, number(s))
	}
	return l
}

// lowest checks that shares are in lowest terms, with In above 0.
func lowest(t *testing.T, l ...api.GrShare) {
	t.Helper()
	for _, s := range l {
		if s.In <= 0 || told(number(s)) != s {
			t.Errorf("%v is not in lowest terms", s)
		}
	}
}

// TestAllThatItShows is P8.6 and P8.8: for all heaps and all samples.
func TestAllThatItShows(t *testing.T) {
	for pieces := 1; pieces <= api.MaxGrPieces; pieces++ {
		h := heap(pieces, 0, pieces)
		for bad := range pieces + 1 {
			for n := range pieces + 1 {
				l := showsOf(t, h, bad, n)
				average := new(big.Rat)
				for shown, c := range l {
					average.Add(average, times(whole(shown), c))
				}
				if sum(l).Cmp(whole(1)) != 0 || average.Cmp(big.NewRat(int64(n*bad), int64(pieces))) != 0 {
					t.Errorf("%v, %d, %d: the chances %v are together %v, with the average %v", h, bad, n, l, sum(l), average)
				}
				if n == pieces && l[bad].Cmp(whole(1)) != 0 {
					t.Errorf("%v, %d: all pieces show %v", h, bad, l)
				}
				turned, good := showsOf(t, h, n, bad), showsOf(t, h, pieces-bad, n)
				for shown, c := range l {
					other := new(big.Rat)
					if shown < len(turned) {
						other = turned[shown]
					}
					if c.Cmp(other) != 0 || c.Cmp(good[n-shown]) != 0 {
						t.Errorf("%v, %d, %d: %d with the chance %v; turned round %v, and %v", h, bad, n, shown, c, other, good[n-shown])
					}
				}
			}
		}
	}
}

// TestCounted is P8.7: all sets of pieces are looked at.
func TestCounted(t *testing.T) {
	for pieces := 1; pieces <= 9; pieces++ {
		h := heap(pieces, 0, pieces)
		for n := range pieces + 1 {
			all := sets(pieces, n, 0)
			waysAre(t, pieces, n, len(all), api.OK)
			for bad := range pieces + 1 {
				counts := make([]int, n+1)
				for _, set := range all {
					counts[seen(set, bad)]++
				}
				var want []api.GrShare
				for _, count := range counts {
					want = append(want, told(big.NewRat(int64(count), int64(len(all)))))
				}
				showsIs(t, h, bad, n, want, api.OK)
			}
		}
	}
}

// passesOf is how often a heap with just so many bad pieces passes.
func passesOf(t *testing.T, pieces, bad int, p api.GrPlan) *big.Rat {
	t.Helper()
	low, high, e := grade.Passes(heap(pieces, bad, bad), p)
	if low != high || e != api.OK {
		t.Fatalf("with just %d of %d bad pieces, by %+v: %v to %v, %d", bad, pieces, p, low, high, e)
	}
	lowest(t, low)
	return number(low)
}

// TestMoreBadPieces is P8.9: any number of Bad is in the range, both ends are reached, and more bad pieces pass no more often.
func TestMoreBadPieces(t *testing.T) {
	fewer := 0
	many(t, 600, func(r *rand.Rand) {
		h := randomHeap(r, api.MaxGrPieces)
		p := randomPlan(r, h)
		low, high, e := grade.Passes(h, p)
		if e != api.OK {
			t.Errorf("%v, %+v: the error is %d", h, p, e)
		}
		before := whole(1)
		var all []api.GrShare
		for bad := h.Bad.Lo; bad <= h.Bad.Hi; bad++ {
			c := passesOf(t, h.Pieces, bad, p)
			if c.Cmp(number(low)) < 0 || c.Cmp(number(high)) > 0 || c.Cmp(before) > 0 {
				t.Errorf("%v, %+v: from %v to %v, %v before, but with %d bad pieces %v", h, p, low, high, before, bad, c)
			}
			if c.Cmp(before) < 0 {
				fewer++
			}
			before = c
			all = append(all, told(c))
		}
		if !slices.Contains(all, low) || !slices.Contains(all, high) {
			t.Errorf("%v, %+v: %v to %v, but only %v", h, p, low, high, all)
		}
	})
	enough(t, "fewer heaps pass", fewer, 1000)
}

// TestTwoSamples is P8.10: between the first sample with Pass, and with less than Fail.
func TestTwoSamples(t *testing.T) {
	less, more := 0, 0
	many(t, 2000, func(r *rand.Rand) {
		h := randomHeap(r, api.MaxGrPieces)
		p := randomPlan(r, h)
		if p.Second == 0 {
			return
		}
		low, high, _ := grade.Passes(h, p)
		strictLow, strictHigh, _ := grade.Passes(h, single(p.First, p.Pass))
		mildLow, mildHigh, e := grade.Passes(h, single(p.First, p.Fail-1))
		for _, l := range [][]api.GrShare{{strictLow, low, mildLow}, {strictHigh, high, mildHigh}} {
			lowest(t, l...)
			x, y := number(l[0]).Cmp(number(l[1])), number(l[1]).Cmp(number(l[2]))
			if x > 0 || y > 0 || e != api.OK {
				t.Errorf("%v, %+v: %v", h, p, l)
			}
			less -= x
			more -= y
		}
	})
	enough(t, "two samples pass more often than the first one", less, 500)
	enough(t, "two samples pass less often than a mild one", more, 500)
}

// atMost is whether a heap passes at most so often with a sample, with each number of Bad.
func atMost(t *testing.T, h api.GrHeap, n, pass int, most api.GrShare) bool {
	t.Helper()
	for bad := h.Bad.Lo; bad <= h.Bad.Hi; bad++ {
		all := sum(showsOf(t, h, bad, n)[:min(pass, n)+1])
		if all.Cmp(number(most)) > 0 {
			return false
		}
	}
	return true
}

// TestTheSmallestSample is P8.11: a sample of this size and all larger ones are enough, no smaller one is.
func TestTheSmallestSample(t *testing.T) {
	none, just := 0, map[int]int{}
	many(t, 1500, func(r *rand.Rand) {
		h := randomHeap(r, api.MaxGrPieces)
		pass := from(r, 0, from(r, 0, h.Pieces))
		in := from(r, 1, ints(10, 1000, api.MaxGrShare)[r.IntN(3)])
		most := share(from(r, 0, from(r, 0, in)), in)
		if r.IntN(3) == 0 { // just as often as some sample
			x := told(sum(showsOf(t, h, h.Bad.Lo, from(r, min(pass+1, h.Pieces), h.Pieces))[:min(pass, h.Pieces)+1]))
			if x.In <= api.MaxGrShare/3 {
				most = share(3*x.Of, 3*x.In)
			}
		}
		got, e := grade.Smallest(h, pass, most)
		if e == api.ErrDown && got == 0 {
			none++
			got = h.Pieces + 1
		} else if e != api.OK || got < 1 || got > h.Pieces {
			t.Errorf("Smallest of %v, %d, %v = %d, %d", h, pass, most, got, e)
		}
		just[got]++
		for n := 1; n <= h.Pieces; n++ {
			if is := atMost(t, h, n, pass, most); is != (n >= got) {
				t.Errorf("Smallest of %v, %d, %v = %d, %d; but of %d: %v", h, pass, most, got, e, n, is)
			}
		}
	})
	enough(t, "no sample", none, 200)
	for n := 1; n <= api.MaxGrPieces; n++ {
		enough(t, "samples of some size", just[n], 3)
	}
}

// TestPrices is P8.4 and P8.12: what is paid on average with each number of Bad; and what it is if each number is more by the same cents.
func TestPrices(t *testing.T) {
	between := 0
	many(t, 1000, func(r *rand.Rand) {
		h := randomHeap(r, api.MaxGrPieces)
		pays := randomPays(r, h)
		n := len(pays) - 1
		var all []*big.Rat
		for bad := h.Bad.Lo; bad <= h.Bad.Hi; bad++ {
			average := new(big.Rat)
			for shown, pay := range pays {
				average.Add(average, times(chance(h.Pieces, bad, n, shown), whole(pay)))
			}
			all = append(all, average)
		}
		low, high := ends(all)
		priceIs(t, h, pays, told(low), told(high), api.OK)
		if low.Cmp(whole(slices.Min(pays))) < 0 || high.Cmp(whole(slices.Max(pays))) > 0 {
			t.Errorf("%v for %v: %v to %v", pays, h, low, high)
		}
		if i, j := slices.Index(all, low), slices.Index(all, high); i > 0 && i < len(all)-1 || j > 0 && j < len(all)-1 {
			between++
		}
		by := from(r, 0, api.MaxGrPay-slices.Max(pays))
		for i := range pays {
			pays[i] += by
		}
		priceIs(t, h, pays, told(plus(low, whole(by))), told(plus(high, whole(by))), api.OK)
	})
	enough(t, "least or greatest averages between both ends", between, 200)
}

// TestPricesThatFall is P8.12: pays that fall by the same cents for each bad piece.
func TestPricesThatFall(t *testing.T) {
	many(t, 500, func(r *rand.Rand) {
		h := randomHeap(r, api.MaxGrPieces)
		n := from(r, 0, h.Pieces)
		by := from(r, 0, ints(5, 5000)[r.IntN(2)])
		pays := ints(from(r, n*by, api.MaxGrPay))
		for i := range n {
			pays = append(pays, pays[i]-by)
		}
		falls := func(bad int) api.GrShare {
			return told(plus(whole(pays[0]), big.NewRat(int64(-by*n*bad), int64(h.Pieces))))
		}
		priceIs(t, h, pays, falls(h.Bad.Hi), falls(h.Bad.Lo), api.OK)
	})
}

// TestWhatIsLeft is P8.4 and P8.13: all that samples of any heap can show.
func TestWhatIsLeft(t *testing.T) {
	none, one, several := 0, 0, 0
	many(t, 400, func(r *rand.Rand) {
		h := randomHeap(r, api.MaxGrPieces)
		for n := range h.Pieces + 1 {
			for shown := range n + 1 {
				var left []int
				for bad := h.Bad.Lo; bad <= h.Bad.Hi; bad++ {
					if chance(h.Pieces, bad, n, shown).Sign() > 0 {
						left = append(left, bad-shown)
					}
				}
				if left == nil {
					none++
					leftIs(t, h, n, shown, span(0, 0), api.ErrDown)
					continue
				}
				if len(left) == 1 {
					one++
				} else {
					several++
				}
				leftIs(t, h, n, shown, span(slices.Min(left), slices.Max(left)), api.OK)
			}
		}
	})
	enough(t, "samples that no heap can show", none, 1000)
	enough(t, "samples that one heap can show", one, 1000)
	enough(t, "samples that several heaps can show", several, 1000)
}

// TestWhatStays is P8.5 and P8.14: with no number of Bad more stays, with a lesser one less does; and it is at most the bad pieces times the chance to pass.
func TestWhatStays(t *testing.T) {
	as, some := 0, 0
	many(t, 1500, func(r *rand.Rand) {
		h := randomHeap(r, ints(6, api.MaxGrPieces)[r.IntN(2)])
		p := randomPlan(r, h)
		worst, most, e := grade.Worst(h, p)
		if e != api.OK || worst < h.Bad.Lo || worst > h.Bad.Hi {
			t.Errorf("Worst of %v, %+v = %d, %v, %d", h, p, worst, most, e)
		}
		lowest(t, most)
		for bad := h.Bad.Lo; bad <= h.Bad.Hi; bad++ {
			at, stays, e := grade.Worst(heap(h.Pieces, bad, bad), p)
			if at != bad || e != api.OK {
				t.Errorf("%v, %+v: with just %d bad pieces %d, %d", h, p, bad, at, e)
			}
			x := number(stays).Cmp(number(most))
			if x > 0 || x == 0 && bad < worst || bad == worst && x != 0 {
				t.Errorf("%v, %+v: with %d bad pieces %v stays, with %d %v", h, p, worst, most, bad, stays)
			}
			if x == 0 && bad > worst {
				as++
			}
			if stays.Of > 0 {
				some++
			}
			if number(stays).Cmp(times(whole(bad), passesOf(t, h.Pieces, bad, p))) > 0 {
				t.Errorf("%v, %+v: with %d bad pieces %v stays", h, p, bad, stays)
			}
		}
	})
	enough(t, "as much stays with more bad pieces", as, 100)
	enough(t, "something stays", some, 1000)
}
