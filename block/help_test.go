package block_test

import (
	"math/bits"
	"math/rand/v2"
	"slices"
	"testing"

	"orlop/api"
	"orlop/block"
)

const (
	least    = -1 << 63
	greatest = 1<<63 - 1
)

// far is numbers that are in no range of the chapter.
func far() []int {
	return []int{least, least + 1, -1 << 62, -1 << 32, -1 << 31, -2, -1, 1 << 31, 1 << 32, 1<<32 + 3, 1<<62 + 1, greatest - 1, greatest}
}

func span(lo, hi int) api.Span { return api.Span{Lo: lo, Hi: hi} }

func spans(l ...api.Span) []api.Span { return l }

func ints(l ...int) []int { return l }

func part(name string, lo, hi int) api.BlPart { return api.BlPart{Name: name, Weight: span(lo, hi)} }

func weighed(parts, lo, hi int) api.BlWeighed {
	return api.BlWeighed{Parts: parts, Shown: span(lo, hi)}
}

func weighings(l ...api.BlWeighed) []api.BlWeighed { return l }

func joints(l ...[2]int) [][2]int { return l }

// sampleH and sampleV are H and V of the chapter's examples.
func sampleH() api.BlHull {
	return api.BlHull{
		Parts:  []api.BlPart{part("a", 100, 120), part("b", 200, 220), part("c", 50, 60), part("d", 300, 330)},
		Joints: joints([2]int{0, 1}, [2]int{1, 2}, [2]int{2, 3}),
		Sand:   span(500, 600),
		Winch:  220,
	}
}

func sampleV() []api.BlWeighed { return weighings(weighed(12, 350, 360)) }

// row is a hull of parts with some weights, each joined to the next one, on sand of 1000, with a winch that pulls all of them.
func row(weights ...api.Span) api.BlHull {
	h := api.BlHull{Sand: span(1000, 1000), Winch: api.MaxBlWinch}
	for i, w := range weights {
		h.Parts = append(h.Parts, part(string(rune('a'+i)), w.Lo, w.Hi))
		if i > 0 {
			h.Joints = append(h.Joints, [2]int{i - 1, i})
		}
	}
	return h
}

// known is a row of parts of which the weights are known.
func known(weights ...int) api.BlHull {
	var l []api.Span
	for _, w := range weights {
		l = append(l, span(w, w))
	}
	return row(l...)
}

// pulled is a hull with another winch; dried is one with other sand.
func pulled(h api.BlHull, winch int) api.BlHull {
	h.Winch = winch
	return h
}

func dried(h api.BlHull, lo, hi int) api.BlHull {
	h.Sand = span(lo, hi)
	return h
}

// jointed is a hull with other joints.
func jointed(h api.BlHull, l ...[2]int) api.BlHull {
	h.Joints = l
	return h
}

func copyOf(h api.BlHull) api.BlHull {
	h.Parts, h.Joints = slices.Clone(h.Parts), slices.Clone(h.Joints)
	return h
}

func sameHulls(a, b api.BlHull) bool {
	return slices.Equal(a.Parts, b.Parts) && slices.Equal(a.Joints, b.Joints) && a.Sand == b.Sand && a.Winch == b.Winch
}

// sum is what the parts of a set weigh together.
func sum(weights []int, set int) (n int) {
	for i, w := range weights {
		if set>>i&1 == 1 {
			n += w
		}
	}
	return n
}

// agrees is whether a truth with these weights agrees with weighings.
func agrees(h api.BlHull, l []api.BlWeighed, weights []int) bool {
	for i, x := range h.Parts {
		if weights[i] < x.Weight.Lo || weights[i] > x.Weight.Hi {
			return false
		}
	}
	for _, w := range l {
		if n := sum(weights, w.Parts); n < w.Shown.Lo || n > w.Shown.Hi {
			return false
		}
	}
	return len(weights) == len(h.Parts)
}

// truths calls a function with the weights of all truths that agree, in the order in which they are compared.
func truths(h api.BlHull, l []api.BlWeighed, do func(weights []int)) {
	var weights []int
	var next func()
	next = func() {
		i := len(weights)
		if i == len(h.Parts) {
			if agrees(h, l, weights) {
				do(slices.Clone(weights))
			}
			return
		}
		for w := h.Parts[i].Weight.Lo; w <= h.Parts[i].Weight.Hi; w++ {
			weights = append(weights, w)
			next()
			weights = weights[:i]
		}
	}
	next()
}

// together is whether the parts of a set hang together: each joint makes one heap of those of its parts.
func together(h api.BlHull, set int) bool {
	heaps := map[int]bool{}
	heap := make([]int, len(h.Parts))
	for i := range heap {
		heap[i] = i
	}
	for _, j := range h.Joints {
		if set>>j[0]&1 == 1 && set>>j[1]&1 == 1 {
			from, to := heap[j[0]], heap[j[1]]
			for i := range heap {
				if heap[i] == from {
					heap[i] = to
				}
			}
		}
	}
	for i := range heap {
		if set>>i&1 == 1 {
			heaps[heap[i]] = true
		}
	}
	return len(heaps) == 1
}

// blocksOf is the sets of parts with the same number each; the set n has those with the number n.
func blocksOf(cut []int) []int {
	sets := make([]int, slices.Max(cut)+1)
	for i, n := range cut {
		sets[n] |= 1 << i
	}
	return sets
}

// blockCount is how many blocks a cut has.
func blockCount(cut []int) int { return slices.Max(cut) + 1 }

// allCuts is all cuts of so many parts, in the order in which they are compared: of all lists of numbers those that are cuts.
func allCuts(parts int) (l [][]int) {
	cut := make([]int, parts)
	for {
		if isCut(cut) {
			l = append(l, slices.Clone(cut))
		}
		i := parts - 1
		for i >= 0 && cut[i] == i {
			cut[i] = 0
			i--
		}
		if i < 0 {
			return l
		}
		cut[i]++
	}
}

// isCut is whether numbers are a cut, by the chapter's words.
func isCut(cut []int) bool {
	for i, n := range cut {
		free := 0
		for slices.Contains(cut[:i], free) {
			free++
		}
		if n != free && !slices.Contains(cut[:i], n) {
			return false
		}
	}
	return true
}

// heavy is the greatest weight of each set of parts, over all truths that agree.
func heavy(h api.BlHull, l []api.BlWeighed) []int {
	most := make([]int, 1<<len(h.Parts))
	truths(h, l, func(weights []int) {
		for set := range most {
			most[set] = max(most[set], sum(weights, set))
		}
	})
	return most
}

// firstBad is the first bad block of a cut, if sets weigh so much at most.
func firstBad(h api.BlHull, most, cut []int) int {
	for n, set := range blocksOf(cut) {
		if !together(h, set) || most[set]*h.Sand.Hi > h.Winch*1000 {
			return n
		}
	}
	return -1
}

// fewest is the first good cut with the fewest blocks; nil if there is none.
func fewest(h api.BlHull, most []int) (found []int) {
	for _, cut := range allCuts(len(h.Parts)) {
		if firstBad(h, most, cut) < 0 && (found == nil || blockCount(cut) < blockCount(found)) {
			found = cut
		}
	}
	return found
}

// do is whether a good cut has at most so many blocks.
func do(h api.BlHull, most []int, blocks int) bool {
	found := fewest(h, most)
	return found != nil && blockCount(found) <= blocks
}

func from(r *rand.Rand, s api.Span) int { return s.Lo + r.IntN(s.Hi-s.Lo+1) }

// randomSpan is a span of at most n numbers from lo to hi; often at one of these.
func randomSpan(r *rand.Rand, lo, hi, n int) api.Span {
	s := span(lo+r.IntN(hi-lo+1), 0)
	if r.IntN(4) == 0 {
		s.Lo = ints(lo, max(lo, hi-r.IntN(n)))[r.IntN(2)]
	}
	s.Hi = min(hi, s.Lo+r.IntN(n))
	return s
}

// randomJoints is joints of so many parts, which often hang together.
func randomJoints(r *rand.Rand, parts int) (l [][2]int) {
	var all [][2]int
	often := ints(2, 8, 8)[r.IntN(3)]
	for i := range parts {
		for j := range i {
			all = append(all, [2]int{j, i})
		}
		if i > 0 && r.IntN(often) > 0 {
			l = append(l, [2]int{r.IntN(i), i})
		}
	}
	for range r.IntN(often) {
		if len(all) > 0 && len(l) < api.MaxBlJoints {
			l = append(l, all[r.IntN(len(all))])
		}
	}
	slices.SortFunc(l, func(a, b [2]int) int { return slices.Compare(a[:], b[:]) })
	l = slices.Compact(l)
	r.Shuffle(len(l), func(i, j int) { l[i], l[j] = l[j], l[i] })
	return l
}

// randomHull is a hull with at most so many parts, of which each has at most so many weights. Its winch mostly pulls about some of the parts.
func randomHull(r *rand.Rand, parts, weights int) api.BlHull {
	scale := ints(4, 30, 3000, api.MaxBlWeight)[r.IntN(4)]
	var l []api.Span
	for range 1 + r.IntN(parts) {
		l = append(l, randomSpan(r, 0, scale, weights))
	}
	h := row(l...)
	h.Joints = randomJoints(r, len(h.Parts))
	h.Sand = randomSpan(r, 1, api.MaxBlSand, 1+r.IntN(600))
	all := 0
	for _, x := range h.Parts {
		all += x.Weight.Hi
	}
	h.Winch = max(1, all*h.Sand.Hi/1000*(1+r.IntN(10))/10+r.IntN(3)-1)
	if r.IntN(6) == 0 {
		h.Winch = 1 + r.IntN(1+all/2000)
	}
	return h
}

// nested is whether a set fits to others as those of weighings have to.
func nested(set int, l []api.BlWeighed) bool {
	return !slices.ContainsFunc(l, func(w api.BlWeighed) bool {
		common := set & w.Parts
		return common != 0 && common != set && common != w.Parts
	})
}

// randomBlock is a block of a hull.
func randomBlock(r *rand.Rand, h api.BlHull) int {
	for {
		if set := 1 + r.IntN(1<<len(h.Parts)-1); together(h, set) {
			return set
		}
	}
}

// randomTruth is the weights of a truth of a hull; in some all weights are at ends of their spans.
func randomTruth(r *rand.Rand, h api.BlHull) (weights []int) {
	ends := r.IntN(2) == 0
	for _, x := range h.Parts {
		n := from(r, x.Weight)
		if ends {
			n = ints(x.Weight.Lo, x.Weight.Hi)[r.IntN(2)]
		}
		weights = append(weights, n)
	}
	return weights
}

// randomWeighings is at most n weighings with which a truth agrees; those of few parts and of many are met as often.
func randomWeighings(r *rand.Rand, h api.BlHull, truth []int, n int) (l []api.BlWeighed) {
	wide := ints(1, 2, 4, 50, 5000)[r.IntN(5)]
	for range r.IntN(3 * n) {
		set := randomBlock(r, h)
		if len(l) == n || !nested(set, l) || bits.OnesCount(uint(set)) == 1 && r.IntN(3) > 0 {
			continue
		}
		all := sum(truth, set)
		l = append(l, weighed(set, max(0, all-r.IntN(wide)), min(api.MaxBlShown, all+r.IntN(wide))))
	}
	return l
}

// many runs a test with random numbers that are the same in each run.
func many(t *testing.T, n int, test func(r *rand.Rand)) {
	t.Helper()
	for i := range n {
		test(rand.New(rand.NewPCG(uint64(i), 7)))
		if t.Failed() {
			t.Fatalf("failed with the random numbers %d", i)
		}
	}
}

// enough checks that random arguments led to something often enough.
func enough(t *testing.T, what string, n, want int) {
	t.Helper()
	if n < want {
		t.Errorf("%s: only %d times", what, n)
	}
}

// weightsAre, pullIs, and so on check what a function returns.
func weightsAre(t *testing.T, what any, h api.BlHull, l []api.BlWeighed, want []api.Span, f api.Errno) {
	t.Helper()
	if got, e := block.Weights(h, l); !slices.Equal(got, want) || e != f {
		t.Errorf("%v: Weights with %v = %v, %d; want %v, %d", what, l, got, e, want, f)
	}
}

func pullIs(t *testing.T, what any, h api.BlHull, l []api.BlWeighed, set int, want api.Span, f api.Errno) {
	t.Helper()
	if got, e := block.Pull(h, l, set); got != want || e != f {
		t.Errorf("%v: Pull of %d with %v = %v, %d; want %v, %d", what, set, l, got, e, want, f)
	}
}

func heaviestIs(t *testing.T, what any, h api.BlHull, l []api.BlWeighed, set int, want []int, f api.Errno) {
	t.Helper()
	if got, e := block.Heaviest(h, l, set); !slices.Equal(got, want) || e != f {
		t.Errorf("%v: Heaviest of %d with %v = %v, %d; want %v, %d", what, set, l, got, e, want, f)
	}
}

func badIs(t *testing.T, what any, h api.BlHull, l []api.BlWeighed, cut []int, want int, f api.Errno) {
	t.Helper()
	if got, e := block.Bad(h, l, cut); got != want || e != f {
		t.Errorf("%v: Bad of %v with %v = %d, %d; want %d, %d", what, cut, l, got, e, want, f)
	}
}

func fewestIs(t *testing.T, what any, h api.BlHull, l []api.BlWeighed, want []int, f api.Errno) {
	t.Helper()
	if got, e := block.Fewest(h, l); !slices.Equal(got, want) || e != f {
		t.Errorf("%v: Fewest with %v = %v, %d; want %v, %d", what, l, got, e, want, f)
	}
}

func winchIs(t *testing.T, what any, h api.BlHull, l []api.BlWeighed, blocks, want int, f api.Errno) {
	t.Helper()
	if got, e := block.Winch(h, l, blocks); got != want || e != f {
		t.Errorf("%v: Winch for %d with %v = %d, %d; want %d, %d", what, blocks, l, got, e, want, f)
	}
}

func sandIs(t *testing.T, what any, h api.BlHull, l []api.BlWeighed, blocks, want int, f api.Errno) {
	t.Helper()
	if got, e := block.Sand(h, l, blocks); got != want || e != f {
		t.Errorf("%v: Sand for %d with %v = %d, %d; want %d, %d", what, blocks, l, got, e, want, f)
	}
}
