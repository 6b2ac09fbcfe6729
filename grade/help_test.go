package grade_test

import (
	"math/big"
	"math/bits"
	"math/rand/v2"
	"slices"
	"testing"

	"orlop/api"
	"orlop/grade"
)

const (
	least    = -1 << 63
	greatest = 1<<63 - 1
)

// far is numbers that are in no range of the chapter.
func far() []int {
	return []int{least, least + 1, -1 << 62, -1 << 32, -1 << 31, -2, -1, 1 << 31, 1 << 32, 1<<32 + 3, 1<<62 + 1, greatest - 1, greatest}
}

func span(lo, hi int) api.Span { return api.Span{Lo: lo, Hi: hi} }

func ints(l ...int) []int { return l }

func heap(pieces, lo, hi int) api.GrHeap { return api.GrHeap{Pieces: pieces, Bad: span(lo, hi)} }

func plan(first, pass, fail, second, total int) api.GrPlan {
	return api.GrPlan{First: first, Pass: pass, Fail: fail, Second: second, Total: total}
}

// single is the plan with one sample.
func single(first, pass int) api.GrPlan { return plan(first, pass, pass+1, 0, 0) }

func share(of, in int) api.GrShare { return api.GrShare{Of: of, In: in} }

// shares is shares of which Of and In are told one after the other.
func shares(n ...int) (l []api.GrShare) {
	for i := 0; i < len(n); i += 2 {
		l = append(l, share(n[i], n[i+1]))
	}
	return l
}

// sampleH, sampleP and sampleQ are H, P and Q of the chapter's examples.
func sampleH() api.GrHeap { return heap(10, 2, 4) }
func sampleP() api.GrPlan { return single(3, 0) }
func sampleQ() api.GrPlan { return plan(3, 0, 2, 3, 1) }

// told is a number in lowest terms, as the package returns it.
func told(x *big.Rat) api.GrShare {
	return share(int(x.Num().Int64()), int(x.Denom().Int64()))
}

// number is a share as a number.
func number(s api.GrShare) *big.Rat { return big.NewRat(int64(s.Of), int64(s.In)) }

func whole(n int) *big.Rat { return big.NewRat(int64(n), 1) }

func plus(x, y *big.Rat) *big.Rat  { return new(big.Rat).Add(x, y) }
func times(x, y *big.Rat) *big.Rat { return new(big.Rat).Mul(x, y) }

// sum is what numbers are together.
func sum(l []*big.Rat) *big.Rat {
	all := new(big.Rat)
	for _, x := range l {
		all.Add(all, x)
	}
	return all
}

// ends is the least and the greatest of numbers.
func ends(l []*big.Rat) (low, high *big.Rat) {
	return slices.MinFunc(l, (*big.Rat).Cmp), slices.MaxFunc(l, (*big.Rat).Cmp)
}

// ways is how many ways there are to choose k of n things; no way if k is no number from 0 to n.
func ways(n, k int) *big.Int {
	if n < 0 || k < 0 || k > n {
		return new(big.Int)
	}
	return new(big.Int).Binomial(int64(n), int64(k))
}

// chance is the chance that a sample of n of some pieces shows so many bad ones, counted by ways to choose.
func chance(pieces, bad, n, shown int) *big.Rat {
	return new(big.Rat).SetFrac(new(big.Int).Mul(ways(bad, shown), ways(pieces-bad, n-shown)), ways(pieces, n))
}

// sorted is the chance that a heap with so many bad pieces passes by a plan, and what stays of it, by the chapter's words: each number that each sample could show is looked at.
func sorted(pieces, bad int, p api.GrPlan) (passes, stays *big.Rat) {
	passes, stays = new(big.Rat), new(big.Rat)
	pass := func(chance *big.Rat, left int) {
		passes.Add(passes, chance)
		stays.Add(stays, times(chance, whole(left)))
	}
	for first := range min(p.First, bad) + 1 {
		c := chance(pieces, bad, p.First, first)
		switch {
		case c.Sign() == 0 || first >= p.Fail:
		case first <= p.Pass:
			pass(c, bad-first)
		default:
			for second := range p.Second + 1 {
				if first+second <= p.Total {
					pass(times(c, chance(pieces-p.First, bad-first, p.Second, second)), bad-first-second)
				}
			}
		}
	}
	return passes, stays
}

// sets is all sets of n pieces of a heap, by bits, without those of another set.
func sets(pieces, n, without int) (l []int) {
	for set := range 1 << pieces {
		if set&without == 0 && bits.OnesCount(uint(set)) == n {
			l = append(l, set)
		}
	}
	return l
}

// seen is how many bad pieces a set has, if so many pieces of the heap, the first ones, are bad.
func seen(set, bad int) int { return bits.OnesCount(uint(set & (1<<bad - 1))) }

// sortedBySets is as sorted; each pair of samples is looked at, as a set of pieces each.
func sortedBySets(pieces, bad int, p api.GrPlan) (passes, stays *big.Rat) {
	all, passed, left := 0, 0, 0
	for _, a := range sets(pieces, p.First, 0) {
		for _, b := range sets(pieces, p.Second, a) {
			all++
			x, y := seen(a, bad), 0
			does := x <= p.Pass
			if !does && x < p.Fail {
				y = seen(b, bad)
				does = x+y <= p.Total
			}
			if does {
				passed++
				left += bad - x - y
			}
		}
	}
	return big.NewRat(int64(passed), int64(all)), big.NewRat(int64(left), int64(all))
}

// allPlans is all plans for a heap of so many pieces, by the chapter's definition.
func allPlans(pieces int) (l []api.GrPlan) {
	for first := 1; first <= pieces; first++ {
		for pass := 0; pass <= first; pass++ {
			l = append(l, single(first, pass))
			for fail := pass + 2; fail <= first+1; fail++ {
				for second := 1; second <= pieces-first; second++ {
					for total := pass; total <= pieces; total++ {
						l = append(l, plan(first, pass, fail, second, total))
					}
				}
			}
		}
	}
	return l
}

func from(r *rand.Rand, lo, hi int) int { return lo + r.IntN(hi-lo+1) }

// randomHeap is a heap of at most so many pieces.
func randomHeap(r *rand.Rand, most int) api.GrHeap {
	pieces := from(r, 1, most)
	lo := from(r, 0, pieces)
	return heap(pieces, lo, from(r, lo, pieces))
}

// randomPlan is a plan for a heap; with two samples mostly, if there can be two.
func randomPlan(r *rand.Rand, h api.GrHeap) api.GrPlan {
	first := from(r, 1, h.Pieces)
	pass := from(r, 0, min(first, from(r, 0, first)))
	if pass >= first || first == h.Pieces || r.IntN(4) == 0 {
		return single(first, pass)
	}
	return plan(first, pass, from(r, pass+2, first+1), from(r, 1, h.Pieces-first), from(r, pass, min(h.Pieces, from(r, pass, h.Pieces))))
}

// randomPays is what is paid for a heap, for a sample of some size.
func randomPays(r *rand.Rand, h api.GrHeap) (l []int) {
	most := ints(3, 1000, api.MaxGrPay)[r.IntN(3)]
	for range from(r, 1, h.Pieces+1) {
		l = append(l, from(r, 0, most))
	}
	return l
}

// many runs a test with random numbers that are the same in each run.
func many(t *testing.T, n int, test func(r *rand.Rand)) {
	t.Helper()
	for i := range n {
		test(rand.New(rand.NewPCG(uint64(i), 8)))
		if t.Failed() {
			t.Fatalf("failed with the random numbers %d", i)
		}
	}
}

// enough checks that random arguments led to something often enough.
func enough(t *testing.T, what string, n, want int) {
	t.Helper()
	if n < want {
		t.Errorf("%s: only %d times", what, n)
	}
}

// checkIs, waysAre, and so on check what a function returns.
func checkIs(t *testing.T, h api.GrHeap, f api.Errno) {
	t.Helper()
	if e := grade.Check(h); e != f {
		t.Errorf("Check of %v = %d; want %d", h, e, f)
	}
}

func checkPlanIs(t *testing.T, h api.GrHeap, p api.GrPlan, f api.Errno) {
	t.Helper()
	if e := grade.CheckPlan(h, p); e != f {
		t.Errorf("CheckPlan of %v and %+v = %d; want %d", h, p, e, f)
	}
}

func waysAre(t *testing.T, n, k, want int, f api.Errno) {
	t.Helper()
	if got, e := grade.Ways(n, k); got != want || e != f {
		t.Errorf("Ways of %d and %d = %d, %d; want %d, %d", n, k, got, e, want, f)
	}
}

func showsIs(t *testing.T, h api.GrHeap, bad, n int, want []api.GrShare, f api.Errno) {
	t.Helper()
	if got, e := grade.Shows(h, bad, n); !slices.Equal(got, want) || e != f {
		t.Errorf("Shows of %v, %d, %d = %v, %d; want %v, %d", h, bad, n, got, e, want, f)
	}
}

func passesIs(t *testing.T, h api.GrHeap, p api.GrPlan, low, high api.GrShare, f api.Errno) {
	t.Helper()
	if a, b, e := grade.Passes(h, p); a != low || b != high || e != f {
		t.Errorf("Passes of %v and %+v = %v, %v, %d; want %v, %v, %d", h, p, a, b, e, low, high, f)
	}
}

func smallestIs(t *testing.T, h api.GrHeap, pass int, most api.GrShare, want int, f api.Errno) {
	t.Helper()
	if got, e := grade.Smallest(h, pass, most); got != want || e != f {
		t.Errorf("Smallest of %v, %d, %v = %d, %d; want %d, %d", h, pass, most, got, e, want, f)
	}
}

func priceIs(t *testing.T, h api.GrHeap, pays []int, low, high api.GrShare, f api.Errno) {
	t.Helper()
	if a, b, e := grade.Price(h, pays); a != low || b != high || e != f {
		t.Errorf("Price of %v and %v = %v, %v, %d; want %v, %v, %d", h, pays, a, b, e, low, high, f)
	}
}

func leftIs(t *testing.T, h api.GrHeap, n, shown int, want api.Span, f api.Errno) {
	t.Helper()
	if got, e := grade.Left(h, n, shown); got != want || e != f {
		t.Errorf("Left of %v, %d, %d = %v, %d; want %v, %d", h, n, shown, got, e, want, f)
	}
}

func worstIs(t *testing.T, h api.GrHeap, p api.GrPlan, bad int, stays api.GrShare, f api.Errno) {
	t.Helper()
	if a, b, e := grade.Worst(h, p); a != bad || b != stays || e != f {
		t.Errorf("Worst of %v and %+v = %d, %v, %d; want %d, %v, %d", h, p, a, b, e, bad, stays, f)
	}
}
