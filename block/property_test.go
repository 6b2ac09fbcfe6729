package block_test

import (
	"math/rand/v2"
	"slices"
	"testing"

	"orlop/api"
	"orlop/block"
)

// smallHull is a hull with few truths.
func smallHull(r *rand.Rand) api.BlHull {
	if r.IntN(3) == 0 {
		return randomHull(r, api.MaxBlParts, 2)
	}
	return randomHull(r, 5, 4)
}

// spoilt is weighings of which one may show something else, so that perhaps no truth agrees.
func spoilt(r *rand.Rand, l []api.BlWeighed) []api.BlWeighed {
	if len(l) > 0 && r.IntN(3) == 0 {
		w := &l[r.IntN(len(l))]
		by := r.IntN(9) - 4
		w.Shown = span(max(0, w.Shown.Lo+by), max(0, w.Shown.Hi+by))
	}
	return l
}

// TestAgainstTruths is P7.2, P7.3, P7.6 and P7.7: what all truths of small hulls say, of which each is looked at.
func TestAgainstTruths(t *testing.T) {
	none, one, partly := 0, 0, 0
	many(t, 700, func(r *rand.Rand) {
		h := smallHull(r)
		l := spoilt(r, randomWeighings(r, h, randomTruth(r, h), 1+r.IntN(api.MaxBlWeighed)))
		sets := 1 << len(h.Parts)
		lowest, most, first := make([]int, sets), make([]int, sets), make([][]int, sets)
		found := 0
		truths(h, l, func(weights []int) {
			found++
			for set := range sets {
				n := sum(weights, set)
				if found == 1 || n < lowest[set] {
					lowest[set] = n
				}
				if found == 1 || n > most[set] {
					most[set], first[set] = n, weights
				}
			}
		})
		if found == 0 {
			none++
			failsWith(t, h, h, l, api.ErrDown)
			return
		}
		if found == 1 && len(l) > 0 {
			one++
		}
		var want []api.Span
		for i := range h.Parts {
			want = append(want, span(lowest[1<<i], most[1<<i]))
		}
		weightsAre(t, h, h, l, want, api.OK)
		for set := 1; set < sets; set++ {
			if !together(h, set) {
				continue
			}
			if slices.ContainsFunc(l, func(w api.BlWeighed) bool { return !nested(set, weighings(w)) }) {
				partly++
			}
			pullIs(t, h, h, l, set, span(lowest[set]*h.Sand.Lo/1000, (most[set]*h.Sand.Hi+999)/1000), api.OK)
			heaviestIs(t, h, h, l, set, first[set], api.OK)
		}
	})
	enough(t, "no truth", none, 50)
	enough(t, "one truth", one, 30)
	enough(t, "blocks with some parts of a weighing, and others", partly, 1000)
}

// goal is the least that the heaviest block of a cut into at most so many blocks, which hang together, can be; -1 if there is no such cut.
func goal(h api.BlHull, most []int, all [][]int, blocks int) int {
	best := -1
	for _, cut := range all {
		top := 0
		for _, set := range blocksOf(cut) {
			if !together(h, set) {
				top = greatest
			}
			top = max(top, most[set])
		}
		if blockCount(cut) <= blocks && top < greatest && (best < 0 || top < best) {
			best = top
		}
	}
	return best
}

// TestAgainstCuts is P7.4, P7.5, P7.8, P7.9 and P7.11: what all cuts of small hulls say, of which each is looked at.
func TestAgainstCuts(t *testing.T) {
	var met [api.MaxBlParts + 1]int
	several, joined, wet, dry := 0, 0, 0, 0
	many(t, 500, func(r *rand.Rand) {
		h := randomHull(r, 6, 3)
		l := randomWeighings(r, h, randomTruth(r, h), 1+r.IntN(api.MaxBlWeighed))
		most := heavy(h, l)
		all := allCuts(len(h.Parts))
		want := fewest(h, most)
		equal := 0
		for _, cut := range all {
			n := firstBad(h, most, cut)
			badIs(t, h, h, l, cut, n, api.OK)
			if n < 0 && blockCount(cut) == blockCount(want) {
				equal++
			}
		}
		if want == nil {
			met[0]++
			fewestIs(t, h, h, l, nil, api.ErrDown)
			if !slices.ContainsFunc(h.Parts, func(x api.BlPart) bool { return x.Weight.Hi*h.Sand.Hi > h.Winch*1000 }) {
				t.Errorf("%v: no part alone is too heavy", h)
			}
		} else {
			met[blockCount(want)]++
			fewestIs(t, h, h, l, want, api.OK)
		}
		if equal > 1 {
			several++
		}
		for blocks := 1; blocks <= api.MaxBlParts; blocks++ {
			kilos := goal(h, most, all, blocks)
			if kilos < 0 {
				joined++
				winchIs(t, h, h, l, blocks, 0, api.ErrDown)
				sandIs(t, h, h, l, blocks, 0, api.ErrDown)
				continue
			}
			winch := 1
			for kilos*h.Sand.Hi > winch*1000 {
				winch += max(1, (kilos*h.Sand.Hi-winch*1000)/1000)
			}
			winchIs(t, h, h, l, blocks, winch, api.OK)
			sand := api.MaxBlSand
			for sand > 0 && kilos*sand > h.Winch*1000 {
				sand--
			}
			switch sand {
			case 0:
				dry++
				sandIs(t, h, h, l, blocks, 0, api.ErrDown)
			case api.MaxBlSand:
				wet++
				fallthrough
			default:
				sandIs(t, h, h, l, blocks, sand, api.OK)
			}
		}
	})
	for n, times := range met[:6] {
		enough(t, "so many blocks: "+string(rune('0'+n)), times, 5)
	}
	enough(t, "several cuts with the fewest blocks", several, 50)
	enough(t, "fewer blocks than the joints allow", joined, 100)
	enough(t, "the wettest sand", wet, 100)
	enough(t, "no sand", dry, 10)
}

// others is truths that agree with weighings: one that does, of which parts become heavier and lighter.
func others(r *rand.Rand, h api.BlHull, l []api.BlWeighed, truth []int) (found [][]int) {
	found = append(found, truth)
	for range 60 {
		next := slices.Clone(found[r.IntN(len(found))])
		i, j := r.IntN(len(next)), r.IntN(len(next))
		n := ints(1, 3, 100, 20000)[r.IntN(4)]
		next[i] += n
		if j != i {
			next[j] -= n
		}
		if agrees(h, l, next) {
			found = append(found, next)
		}
	}
	return found
}

// TestEveryTruth is P7.6, P7.7 and P7.8: in any truth of hulls of any size all is in its range, no block takes more than in the truth of Heaviest, and the winch pulls each block of the cut of Fewest.
func TestEveryTruth(t *testing.T) {
	looked, weighedMore := 0, 0
	many(t, 600, func(r *rand.Rand) {
		h := randomHull(r, api.MaxBlParts, api.MaxBlWeight)
		truth := randomTruth(r, h)
		l := randomWeighings(r, h, truth, api.MaxBlWeighed)
		set := randomBlock(r, h)
		weights, e1 := block.Weights(h, l)
		pull, e2 := block.Pull(h, l, set)
		heaviest, e3 := block.Heaviest(h, l, set)
		cut, e4 := block.Fewest(h, l)
		if e1 != api.OK || e2 != api.OK || e3 != api.OK || e4 != api.OK && e4 != api.ErrDown {
			t.Fatalf("%v with %v: the errors are %d, %d, %d, %d", h, l, e1, e2, e3, e4)
		}
		if takes := sum(heaviest, set) * h.Sand.Hi; !agrees(h, l, heaviest) || (takes+999)/1000 != pull.Hi {
			t.Errorf("%v with %v: Pull of %d = %v, Heaviest = %v", h, l, set, pull, heaviest)
		}
		if len(l) > 3 {
			weighedMore++
		}
		for _, weighs := range append(others(r, h, l, truth), heaviest) {
			looked++
			sand := from(r, h.Sand)
			for i, n := range weighs {
				if n < weights[i].Lo || n > weights[i].Hi {
					t.Errorf("%v with %v: the weights are %v in a truth, %v by Weights", h, l, weighs, weights)
				}
			}
			takes := sum(weighs, set) * sand
			if takes < pull.Lo*1000 || takes > pull.Hi*1000 || sum(weighs, set) > sum(heaviest, set) {
				t.Errorf("%v with %v: the weights are %v in a truth, Pull of %d is %v", h, l, weighs, set, pull)
			}
			if e4 != api.OK {
				continue
			}
			for _, b := range blocksOf(cut) {
				if sum(weighs, b)*sand > h.Winch*1000 || !together(h, b) {
					t.Errorf("%v with %v: of the cut %v the block %d is bad", h, l, cut, b)
				}
			}
		}
	})
	enough(t, "truths", looked, 5000)
	enough(t, "many weighings", weighedMore, 100)
}

// TestEndsAreReached is P7.6: with a weighing of an end of a range of Weights some truth agrees; with one that is beyond it none does.
func TestEndsAreReached(t *testing.T) {
	narrower := 0
	many(t, 500, func(r *rand.Rand) {
		h := randomHull(r, api.MaxBlParts, api.MaxBlWeight)
		l := randomWeighings(r, h, randomTruth(r, h), api.MaxBlWeighed-1)
		weights, _ := block.Weights(h, l)
		for i, w := range weights {
			if w != h.Parts[i].Weight {
				narrower++
			}
			for _, c := range []struct {
				kilos int
				e     api.Errno
			}{{w.Lo, api.OK}, {w.Hi, api.OK}, {w.Lo - 1, api.ErrDown}, {w.Hi + 1, api.ErrDown}} {
				if c.kilos < 0 {
					continue
				}
				if _, e := block.Weights(h, append(l, weighed(1<<i, c.kilos, c.kilos))); e != c.e {
					t.Errorf("%v with %v: if the part %d weighs %d the error is %d; want %d", h, l, i, c.kilos, e, c.e)
				}
			}
		}
	})
	enough(t, "narrower ranges", narrower, 300)
}

// needs is how many blocks Fewest needs; one more than any number if there is no good cut.
func needs(t *testing.T, h api.BlHull, l []api.BlWeighed) int {
	t.Helper()
	cut, e := block.Fewest(h, l)
	if e == api.ErrDown {
		return api.MaxBlParts + 1
	}
	if e != api.OK {
		t.Fatalf("%v with %v: Fewest has the error %d", h, l, e)
	}
	return blockCount(cut)
}

func within(s, t api.Span) bool { return t.Lo <= s.Lo && s.Hi <= t.Hi }

// TestOneWeighingMore is P7.10: no range is wider, and no more blocks are needed.
func TestOneWeighingMore(t *testing.T) {
	narrower, fewer := 0, 0
	many(t, 600, func(r *rand.Rand) {
		h := randomHull(r, api.MaxBlParts, api.MaxBlWeight)
		l := randomWeighings(r, h, randomTruth(r, h), api.MaxBlWeighed)
		if len(l) == 0 {
			return
		}
		before := l[:len(l)-1]
		set := randomBlock(r, h)
		weights, _ := block.Weights(h, l)
		wide, _ := block.Weights(h, before)
		for i := range weights {
			if !within(weights[i], wide[i]) {
				t.Errorf("%v with %v: Weights is %v, and %v with one less", h, l, weights, wide)
			}
		}
		pull, _ := block.Pull(h, l, set)
		if widePull, _ := block.Pull(h, before, set); !within(pull, widePull) {
			t.Errorf("%v with %v: Pull of %d is %v, and %v with one less", h, l, set, pull, widePull)
		} else if pull != widePull {
			narrower++
		}
		switch n, m := needs(t, h, l), needs(t, h, before); {
		case n > m:
			t.Errorf("%v with %v: %d blocks, and %d with one less", h, l, n, m)
		case n < m:
			fewer++
		}
	})
	enough(t, "narrower ranges", narrower, 100)
	enough(t, "fewer blocks", fewer, 20)
}

// TestStronger is P7.11: with a stronger winch, drier sand or lighter parts no more blocks are needed.
func TestStronger(t *testing.T) {
	fewer := 0
	many(t, 600, func(r *rand.Rand) {
		h := randomHull(r, api.MaxBlParts, api.MaxBlWeight)
		truth := randomTruth(r, h)
		l := randomWeighings(r, h, truth, api.MaxBlWeighed)
		before := needs(t, h, l)
		stronger := pulled(h, min(api.MaxBlWinch, h.Winch+1+r.IntN(h.Winch)))
		drier := h
		drier.Sand.Hi = from(r, h.Sand)
		lower := copyOf(h) // fewer truths
		i := r.IntN(len(h.Parts))
		lower.Parts[i].Weight.Hi = from(r, span(truth[i], h.Parts[i].Weight.Hi))
		for _, better := range []api.BlHull{stronger, drier, lower} {
			switch after := needs(t, better, l); {
			case after > before:
				t.Errorf("%v with %v: %d blocks are needed, of %v %d", h, l, before, better, after)
			case after < before:
				fewer++
			}
		}
		lighter := copyOf(h) // other truths, of which a weighing could tell that other parts are heavier
		w := &lighter.Parts[i].Weight
		w.Lo, w.Hi = w.Lo/2, w.Hi/2
		if before, after := needs(t, h, nil), needs(t, lighter, nil); after > before {
			t.Errorf("%v: %d blocks are needed, of %v %d", h, before, lighter, after)
		}
	})
	enough(t, "fewer blocks", fewer, 100)
}

// TestJustAsManyBlocks is P7.11: with the winch of Winch as many blocks do, with a weaker one they do not; likewise with the sand of Sand.
func TestJustAsManyBlocks(t *testing.T) {
	weaker, wetter, none := 0, 0, 0
	many(t, 400, func(r *rand.Rand) {
		h := randomHull(r, api.MaxBlParts, api.MaxBlWeight)
		l := randomWeighings(r, h, randomTruth(r, h), api.MaxBlWeighed)
		for blocks := 1; blocks <= api.MaxBlParts; blocks++ {
			if winch, e := block.Winch(h, l, blocks); e == api.OK {
				if n := needs(t, pulled(h, winch), l); n > blocks {
					t.Errorf("%v with %v: with the winch %d %d blocks are needed", h, l, winch, n)
				}
				if winch > 1 {
					weaker++
					if n := needs(t, pulled(h, winch-1), l); n <= blocks {
						t.Errorf("%v with %v: with the winch %d %d blocks are needed", h, l, winch-1, n)
					}
				}
			}
			sand, e := block.Sand(h, l, blocks)
			if e == api.OK {
				if n := needs(t, dried(h, 1, sand), l); n > blocks {
					t.Errorf("%v with %v: with the sand %d %d blocks are needed", h, l, sand, n)
				}
			}
			if sand < api.MaxBlSand {
				wetter++
				if n := needs(t, dried(h, 1, sand+1), l); n <= blocks {
					t.Errorf("%v with %v: with the sand %d %d blocks are needed", h, l, sand+1, n)
				}
			}
			if e == api.ErrDown {
				none++
			}
		}
	})
	enough(t, "weaker winches", weaker, 1000)
	enough(t, "wetter sands", wetter, 1000)
	enough(t, "no sand", none, 100)
}

// numbered is the cut whose blocks have the parts with the same marks.
func numbered(marks []int) (cut []int) {
	for i, m := range marks {
		n := 0
		for j := range i {
			if marks[j] == m {
				n = cut[j]
				break
			}
			n = max(n, cut[j]+1)
		}
		cut = append(cut, n)
	}
	return cut
}

// TestCutMore is P7.12: a good cut of which a block is cut further stays good, and so it does with a further joint.
func TestCutMore(t *testing.T) {
	further, more := 0, 0
	many(t, 500, func(r *rand.Rand) {
		h := randomHull(r, api.MaxBlParts, api.MaxBlWeight)
		l := randomWeighings(r, h, randomTruth(r, h), api.MaxBlWeighed)
		cut, e := block.Fewest(h, l)
		if e != api.OK {
			return
		}
		badIs(t, h, h, l, cut, -1, api.OK)
		for range 20 {
			marks := slices.Clone(cut)
			for i := range marks {
				marks[i] = 2*marks[i] + r.IntN(2)
			}
			next := numbered(marks)
			if !slices.ContainsFunc(blocksOf(next), func(set int) bool { return !together(h, set) }) && !slices.Equal(next, cut) {
				further++
				badIs(t, h, h, l, next, -1, api.OK)
			}
		}
		joined := copyOf(h)
		j := [2]int{r.IntN(len(h.Parts)), r.IntN(len(h.Parts))}
		if j[0] < j[1] && !slices.Contains(h.Joints, j) && len(h.Joints) < api.MaxBlJoints {
			more++
			joined.Joints = append(joined.Joints, j)
			badIs(t, joined, joined, l, cut, -1, api.OK)
		}
	})
	enough(t, "cuts", further, 1000)
	enough(t, "joints", more, 30)
}

// TestAnyOrder is P7.13: in any order, and told twice, weighings lead to the same.
func TestAnyOrder(t *testing.T) {
	twice := 0
	many(t, 500, func(r *rand.Rand) {
		h := randomHull(r, api.MaxBlParts, api.MaxBlWeight)
		l := spoilt(r, randomWeighings(r, h, randomTruth(r, h), api.MaxBlWeighed))
		a := arguments{hull: h, weighed: l, block: randomBlock(r, h), blocks: 1 + r.IntN(len(h.Parts)), cut: numbered(randomTruth(r, h))}
		want := call(a)
		a.weighed = slices.Clone(l)
		for len(l) > 0 && len(a.weighed) < api.MaxBlWeighed && r.IntN(3) > 0 {
			twice++
			a.weighed = append(a.weighed, l[r.IntN(len(l))])
		}
		r.Shuffle(len(a.weighed), func(i, j int) { a.weighed[i], a.weighed[j] = a.weighed[j], a.weighed[i] })
		if got := call(a); !got.same(want) {
			t.Errorf("%v with %v: %v; with %v: %v", h, l, want, a.weighed, got)
		}
	})
	enough(t, "weighings that are told twice", twice, 200)
}
