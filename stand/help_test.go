package stand_test

import (
	"math/rand/v2"
	"slices"
	"testing"

	"orlop/api"
	"orlop/stand"
)

const (
	least    = -1 << 63
	greatest = 1<<63 - 1
)

// far is numbers that are in no range of the chapter.
func far() []int {
	return []int{least, least + 1, -1 << 62, -1 << 32, -1 << 31, -2, -1, 1 << 31, 1 << 32, 1 << 32 * 3, 1<<62 + 1, greatest - 1, greatest}
}

func span(lo, hi int) api.Span { return api.Span{Lo: lo, Hi: hi} }

func part(name string, at, lo, hi, keel, liftLo, liftHi int) api.StPart {
	return api.StPart{Name: name, At: at, Weight: span(lo, hi), Keel: keel, Lift: span(liftLo, liftHi)}
}

// known is a part of which the weight and the lift are known.
func known(name string, at, weight, keel, lift int) api.StPart {
	return part(name, at, weight, weight, keel, lift, lift)
}

func hullOf(aft, fore int, parts ...api.StPart) api.StHull {
	return api.StHull{Parts: parts, Aft: aft, Fore: fore}
}

func truthOf(weights, lifts []int) api.StTruth { return api.StTruth{Weights: weights, Lifts: lifts} }

func ints(l ...int) []int { return l }

func force(at, n int) api.StForce { return api.StForce{At: at, Force: n} }

func forces(l ...api.StForce) []api.StForce { return l }

func bal(down, aft, fore int) api.StBalance {
	return api.StBalance{Down: down, Aft: aft, Fore: fore}
}

// sampleH and sampleT are H and T of the chapter's examples.
func sampleH() api.StHull {
	return hullOf(200, 800,
		part("bow", 100, 1000, 1200, 50, 10, 12),
		part("mid", 400, 500, 600, 100, 4, 5),
		part("stern", 900, 2000, 2000, 100, 20, 20))
}

func sampleT() api.StTruth { return truthOf(ints(1000, 500, 2000), ints(12, 5, 20)) }

// dip is a hull of which all is known. From 34 to 51 centimetres of water it turns over Aft: at first less and less stays ahead of Aft, later nothing stays behind it.
func dip() api.StHull {
	return hullOf(100, 200, known("a", 0, 1000, 50, 20), known("b", 150, 2100, 0, 3))
}

// all is the whole range of heights of water.
func all() api.Span { return span(0, api.MaxStWater) }

func copyOf(h api.StHull) api.StHull {
	h.Parts = slices.Clone(h.Parts)
	return h
}

func sameHulls(a, b api.StHull) bool {
	return a.Aft == b.Aft && a.Fore == b.Fore && slices.Equal(a.Parts, b.Parts)
}

func copyTruth(t api.StTruth) api.StTruth {
	return truthOf(slices.Clone(t.Weights), slices.Clone(t.Lifts))
}

func sameTruths(a, b api.StTruth) bool {
	return slices.Equal(a.Weights, b.Weights) && slices.Equal(a.Lifts, b.Lifts)
}

// turned is a hull turned end for end.
func turned(h api.StHull) api.StHull {
	t := copyOf(h)
	t.Aft, t.Fore = api.MaxStAt-h.Fore, api.MaxStAt-h.Aft
	for i := range t.Parts {
		t.Parts[i].At = api.MaxStAt - h.Parts[i].At
	}
	return t
}

// loaded is a hull with ballast on a part.
func loaded(h api.StHull, part, kilos int) api.StHull {
	h = copyOf(h)
	h.Parts[part].Weight.Lo += kilos
	h.Parts[part].Weight.Hi += kilos
	return h
}

// press is the press of a part, by the chapter's words.
func press(weight, lift, keel, water int) int {
	if water > keel {
		return weight - lift*(water-keel)
	}
	return weight
}

// balance is the balance in a truth, by the chapter's words.
func balance(h api.StHull, t api.StTruth, water int) (b api.StBalance) {
	for i, x := range h.Parts {
		p := press(t.Weights[i], t.Lifts[i], x.Keel, water)
		b.Down += p
		b.Aft += p * (x.At - h.Aft)
		b.Fore += p * (h.Fore - x.At)
	}
	return b
}

// leastOf is the least balance: each part adds the least of what it adds with any ends of its Weight and its Lift.
func leastOf(h api.StHull, water int) (b api.StBalance) {
	for _, x := range h.Parts {
		down, aft, fore := greatest, greatest, greatest
		for _, weight := range ints(x.Weight.Lo, x.Weight.Hi) {
			for _, lift := range ints(x.Lift.Lo, x.Lift.Hi) {
				p := press(weight, lift, x.Keel, water)
				down, aft, fore = min(down, p), min(aft, p*(x.At-h.Aft)), min(fore, p*(h.Fore-x.At))
			}
		}
		b = bal(b.Down+down, b.Aft+aft, b.Fore+fore)
	}
	return b
}

// reason is why a hull of a balance does not stand, or why one of a least balance does not surely stand.
func reason(b api.StBalance) int {
	switch {
	case b.Down <= 0:
		return api.StFloats
	case b.Aft < 0:
		return api.StAft
	case b.Fore < 0:
		return api.StFore
	}
	return api.StStands
}

// why is why and from which height on a hull does not surely stand through a tide, of which each height is looked at.
func why(h api.StHull, tide api.Span) (why, water int) {
	for w := tide.Lo; w <= tide.Hi; w++ {
		if why := reason(leastOf(h, w)); why != api.StStands {
			return why, w
		}
	}
	return api.StStands, 0
}

func surely(h api.StHull, tide api.Span) bool {
	r, _ := why(h, tide)
	return r == api.StStands
}

// truths calls a function with all truths of a hull.
func truths(h api.StHull, do func(t api.StTruth)) {
	n := len(h.Parts)
	t := truthOf(make([]int, n), make([]int, n))
	var next func(i int)
	next = func(i int) {
		if i == n {
			do(copyTruth(t))
			return
		}
		for weight := h.Parts[i].Weight.Lo; weight <= h.Parts[i].Weight.Hi; weight++ {
			for lift := h.Parts[i].Lift.Lo; lift <= h.Parts[i].Lift.Hi; lift++ {
				t.Weights[i], t.Lifts[i] = weight, lift
				next(i + 1)
			}
		}
	}
	next(0)
}

func from(r *rand.Rand, s api.Span) int { return s.Lo + r.IntN(s.Hi-s.Lo+1) }

// randomTruth is a truth of a hull; in some of them all numbers are at ends of their spans.
func randomTruth(r *rand.Rand, h api.StHull) (t api.StTruth) {
	ends := r.IntN(2) == 0
	pick := func(s api.Span) int {
		if ends {
			return ints(s.Lo, s.Hi)[r.IntN(2)]
		}
		return from(r, s)
	}
	for _, x := range h.Parts {
		t.Weights = append(t.Weights, pick(x.Weight))
		t.Lifts = append(t.Lifts, pick(x.Lift))
	}
	return t
}

// randomSpan is a span of at most n numbers from lo to hi.
func randomSpan(r *rand.Rand, lo, hi, n int) api.Span {
	s := span(lo+r.IntN(hi-lo+1), 0)
	s.Hi = min(hi, s.Lo+r.IntN(n))
	return s
}

// smallHull is a hull of few parts with few truths, on short ground; its keels are low.
func smallHull(r *rand.Rand, parts int) api.StHull {
	base := r.IntN(api.MaxStAt - 11)
	h := hullOf(base+r.IntN(5), base+5+r.IntN(6))
	for i := range 1 + r.IntN(parts) {
		x := part(string(rune('a'+i)), base+r.IntN(12), 0, 0, r.IntN(8), 0, 0)
		x.Weight, x.Lift = randomSpan(r, 0, 20, 3), randomSpan(r, 0, 4, 3)
		h.Parts = append(h.Parts, x)
	}
	return h
}

// randomHull is a hull of any size; most of its parts are about its ground, and are lifted about as much as they weigh.
func randomHull(r *rand.Rand) api.StHull {
	ground := randomSpan(r, 0, api.MaxStAt-1, 1+r.IntN(api.MaxStAt))
	h := hullOf(ground.Lo, max(ground.Hi, ground.Lo+1))
	n := 1 + r.IntN(api.MaxStParts)
	scale := ints(30, 3000, api.MaxStWeight)[r.IntN(3)]
	for i := range n {
		x := part(string(rune('a'+i)), h.Aft+r.IntN(h.Fore-h.Aft+1), 0, 0, r.IntN(api.MaxStWater+1), 0, 0)
		if r.IntN(3) == 0 {
			x.At = ints(0, h.Aft, h.Fore, api.MaxStAt, r.IntN(api.MaxStAt+1))[r.IntN(5)]
		}
		x.Weight = randomSpan(r, 0, scale, 1+scale/(1+r.IntN(200)))
		lift := min(api.MaxStLift, scale/(1+r.IntN(1500)))
		x.Lift = randomSpan(r, 0, lift, 1+lift/(1+r.IntN(30)))
		h.Parts = append(h.Parts, x)
	}
	return h
}

// dipping is a hull like dip, with other numbers, and perhaps turned end for end.
func dipping(r *rand.Rand) api.StHull {
	aft := 100 + r.IntN(1000)
	x := part("a", aft-1-r.IntN(100), 0, 0, 20+r.IntN(60), 0, 0)
	y := part("b", aft+1+r.IntN(100), 0, 0, r.IntN(20), 0, 0)
	x.Weight, x.Lift = randomSpan(r, 500, 1500, 3), randomSpan(r, 10, 30, 3)
	y.Lift = randomSpan(r, 1, 4, 2)
	balanced := x.Weight.Hi*(aft-x.At)/(y.At-aft) + 1
	y.Weight = randomSpan(r, balanced, balanced+100, 3)
	h := hullOf(aft, aft+200, x, y)
	if r.IntN(2) == 0 {
		return turned(h)
	}
	return h
}

// anyHull is a small hull, one of any size, or one that dips.
func anyHull(r *rand.Rand) api.StHull {
	switch r.IntN(7) {
	case 0:
		return dipping(r)
	case 1, 2, 3:
		return smallHull(r, api.MaxStParts)
	}
	return randomHull(r)
}

// randomTide is a tide; it is often just around the height from which on a hull does not stand.
func randomTide(r *rand.Rand, h api.StHull) api.Span {
	t := randomSpan(r, 0, api.MaxStWater, 1+r.IntN(api.MaxStWater+1))
	_, water := why(h, all())
	switch r.IntN(4) {
	case 0:
		t = span(max(0, water-r.IntN(4)), min(api.MaxStWater, water+r.IntN(4)))
	case 1:
		t = span(max(0, water-r.IntN(40)), min(api.MaxStWater, water+r.IntN(80)))
	}
	return t
}

// many runs a test with random numbers that are the same in each run.
func many(t *testing.T, n int, test func(r *rand.Rand)) {
	t.Helper()
	for i := range n {
		test(rand.New(rand.NewPCG(uint64(i), 5)))
		if t.Failed() {
			t.Fatalf("failed with the random numbers %d", i)
		}
	}
}

// enough checks that random arguments led to something often enough.
func enough(t *testing.T, what string, n, want int) {
	t.Helper()
	if n < want {
		t.Errorf("%s: only %d times", what, n)
	}
}

// balanceIs, leastIs, and so on check what a function returns.
func balanceIs(t *testing.T, what any, h api.StHull, truth api.StTruth, water int, want api.StBalance, f api.Errno) {
	t.Helper()
	if got, e := stand.Balance(h, truth, water); got != want || e != f {
		t.Errorf("%v: Balance = %v, %d; want %v, %d", what, got, e, want, f)
	}
}

func leastIs(t *testing.T, what any, h api.StHull, water int, want api.StBalance, f api.Errno) {
	t.Helper()
	if got, e := stand.Least(h, water); got != want || e != f {
		t.Errorf("%v: Least = %v, %d; want %v, %d", what, got, e, want, f)
	}
}

func whyIs(t *testing.T, what any, h api.StHull, tide api.Span, why, water int, f api.Errno) {
	t.Helper()
	if got, at, e := stand.Why(h, tide); got != why || at != water || e != f {
		t.Errorf("%v: Why through %v = %d, %d, %d; want %d, %d, %d", what, tide, got, at, e, why, water, f)
	}
}

func showIs(t *testing.T, what any, h api.StHull, water int, want api.StTruth, why int, f api.Errno) {
	t.Helper()
	if got, r, e := stand.Show(h, water); !sameTruths(got, want) || r != why || e != f {
		t.Errorf("%v: Show at %d = %v, %d, %d; want %v, %d, %d", what, water, got, r, e, want, why, f)
	}
}

func forcesAre(t *testing.T, what any, h api.StHull, truth api.StTruth, water int, want []api.StForce, f api.Errno) {
	t.Helper()
	if got, e := stand.Forces(h, truth, water); !slices.Equal(got, want) || e != f {
		t.Errorf("%v: Forces = %v, %d; want %v, %d", what, got, e, want, f)
	}
}

func bearsIs(t *testing.T, what any, h api.StHull, truth api.StTruth, water int, l []api.StForce, want bool, f api.Errno) {
	t.Helper()
	if got, e := stand.Bears(h, truth, water, l); got != want || e != f {
		t.Errorf("%v: Bears of %v = %v, %d; want %v, %d", what, l, got, e, want, f)
	}
}

func tideIs(t *testing.T, what any, h api.StHull, want int, f api.Errno) {
	t.Helper()
	if got, e := stand.Tide(h); got != want || e != f {
		t.Errorf("%v: Tide = %d, %d; want %d, %d", what, got, e, want, f)
	}
}

func ballastIs(t *testing.T, what any, h api.StHull, part int, tide api.Span, want int, f api.Errno) {
	t.Helper()
	if got, e := stand.Ballast(h, part, tide); got != want || e != f {
		t.Errorf("%v: Ballast on %d through %v = %d, %d; want %d, %d", what, part, tide, got, e, want, f)
	}
}
