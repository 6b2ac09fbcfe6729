package water_test

import (
	"math/bits"
	"math/rand/v2"
	"slices"
	"testing"

	"orlop/api"
	"orlop/water"
)

const (
	least    = -1 << 63
	greatest = 1<<63 - 1
)

// far is numbers that are in no range of the chapter.
func far() []int {
	return []int{least, least + 1, -1 << 62, -1 << 32, -1<<32 + 1, -1 << 31, -256, 256, 1 << 31, 1 << 32, 1<<32 + 1, 1<<62 + 1, greatest - 1, greatest}
}

func ints(l ...int) []int { return l }

func words(l ...string) []string { return l }

func span(lo, hi int) api.Span { return api.Span{Lo: lo, Hi: hi} }

func spans(l ...api.Span) []api.Span { return l }

func yard(name string, at, kinds int) api.WtYard { return api.WtYard{Name: name, At: at, Kinds: kinds} }

func shoreOf(spread int, drifts []api.Span, yards ...api.WtYard) api.WtShore {
	return api.WtShore{Yards: yards, Drifts: drifts, Spread: spread}
}

// calm is a shore along which all water drifts just so far on each of some tides.
func calm(spread int, drifts []int, yards ...api.WtYard) api.WtShore {
	s := shoreOf(spread, nil, yards...)
	for _, n := range drifts {
		s.Drifts = append(s.Drifts, span(n, n))
	}
	return s
}

// foundAt is a sample that is Found, and cleanAt one that is not.
func foundAt(place, tide, kind int) api.WtSample {
	return api.WtSample{Place: place, Tide: tide, Kind: kind, Found: true}
}

func cleanAt(place, tide, kind int) api.WtSample {
	return api.WtSample{Place: place, Tide: tide, Kind: kind}
}

func samples(l ...api.WtSample) []api.WtSample { return l }

// sampleS, sampleF, sampleN and sampleG are S, F, N and G of the chapter's examples.
func sampleS() api.WtShore {
	return shoreOf(3, spans(span(5, 10), span(-10, -5)), yard("north", 10, 1), yard("mid", 20, 3), yard("south", 30, 1))
}

func sampleF() api.WtSample { return foundAt(22, 0, 0) }

func sampleN() api.WtSample { return cleanAt(24, 0, 0) }

func sampleG() api.WtSample { return foundAt(24, 1, 0) }

func copyShore(s api.WtShore) api.WtShore {
	s.Yards, s.Drifts = slices.Clone(s.Yards), slices.Clone(s.Drifts)
	return s
}

// spilt is a spill, and which samples it is in, by bits.
type spilt struct{ yard, kind, tide, in int }

// winds calls a function with all that can be true of how far water drifts. The list that it is handed is not its own.
func winds(s api.WtShore, test func(d []int)) {
	d := make([]int, len(s.Drifts))
	var next func(tide int)
	next = func(tide int) {
		if tide == len(d) {
			test(d)
			return
		}
		for n := s.Drifts[tide].Lo; n <= s.Drifts[tide].Hi; n++ {
			d[tide] = n
			next(tide + 1)
		}
	}
	next(0)
}

// spillsOf is all spills that there can be, if water drifts so far.
func spillsOf(s api.WtShore, l []api.WtSample, d []int) (all []spilt) {
	for i, y := range s.Yards {
		for kind := range 2 {
			for tide := range s.Drifts {
				if y.Kinds&(1<<kind) == 0 {
					continue
				}
				p := spilt{i, kind, tide, 0}
				for k, x := range l {
					if x.Kind == kind && tide <= x.Tide && distance(y.At+total(d[tide:x.Tide+1]), x.Place) <= s.Spread {
						p.in |= 1 << k
					}
				}
				all = append(all, p)
			}
		}
	}
	return all
}

func distance(a, b int) int { return max(a-b, b-a) }

func total(l []int) (sum int) {
	for _, n := range l {
		sum += n
	}
	return sum
}

// shown is what a truth shows: the samples that some spill is in, the yards that have a spill, and those that have one in a sample that is looked at; all by bits.
type shown struct{ in, yards, here int }

// truths is what all truths that agree show, spill by spill: each one is in a truth, or it is not.
func truths(s api.WtShore, l []api.WtSample, look int) map[shown]bool {
	found := 0
	for i, x := range l {
		if x.Found {
			found |= 1 << i
		}
	}
	agree := map[shown]bool{}
	winds(s, func(d []int) {
		all := map[shown]bool{{}: true}
		for _, p := range spillsOf(s, l, d) {
			for _, x := range keys(all) {
				x.in |= p.in
				x.yards |= 1 << p.yard
				if p.in&(1<<look) != 0 {
					x.here |= 1 << p.yard
				}
				all[x] = true
			}
		}
		for x := range all {
			if x.in == found {
				agree[x] = true
			}
		}
	})
	return agree
}

func keys[K comparable, V any](m map[K]V) (l []K) {
	for k := range m {
		l = append(l, k)
	}
	return l
}

// canOf is what Can has to return without an error of the arguments.
func canOf(s api.WtShore, l []api.WtSample, i int) ([]int, api.Errno) {
	all, can := truths(s, l, i), 0
	if len(all) == 0 {
		return nil, api.ErrDown
	}
	for x := range all {
		can |= x.here
	}
	return listOf(can), api.OK
}

func agreeOf(s api.WtShore, l []api.WtSample) bool { return len(truths(s, l, 0)) > 0 }

// answers is what Agree, Sources, Must and Fewest return, and Can of each sample that is Found, by its number; where no truth agrees, all is none.
type answers struct {
	agree                 bool
	sources, must, fewest []int
	can                   map[int][]int
}

// answersOf is what all these functions have to return, by the chapter's words; and the yards of all truths that agree.
func answersOf(s api.WtShore, l []api.WtSample) (a answers, lists [][]int) {
	all := truths(s, l, 0)
	if len(all) == 0 {
		return answers{}, nil
	}
	must, sources := 1<<len(s.Yards)-1, 0
	for x := range all {
		must &= x.yards
		lists = append(lists, listOf(x.yards))
	}
	a = answers{agree: true, must: listOf(must), fewest: slices.MinFunc(lists, shorter), can: map[int][]int{}}
	for _, i := range foundOf(l) {
		a.can[i], _ = canOf(s, l, i)
		sources |= setOf(a.can[i])
	}
	a.sources = listOf(sources)
	return a, lists
}

// asked is what Ask returns: the place, the tide and the kind of a sample, and what it leaves.
type asked struct{ at, tide, kind, left int }

// leavesOf is what a sample leaves.
func leavesOf(s api.WtShore, l []api.WtSample, i int, further api.WtSample) int {
	most := 0
	for _, found := range []bool{false, true} {
		further.Found = found
		can, _ := canOf(s, with(l, further), i)
		most = max(most, len(can))
	}
	return most
}

func askOf(s api.WtShore, l []api.WtSample, i int, places []int) (asked, api.Errno) {
	if !agreeOf(s, l) {
		return asked{}, api.ErrDown
	}
	var all []asked
	for at, place := range places {
		for tide := range s.Drifts {
			for kind := range 2 {
				all = append(all, asked{at, tide, kind, leavesOf(s, l, i, cleanAt(place, tide, kind))})
			}
		}
	}
	return slices.MinFunc(all, func(a, b asked) int { return a.left - b.left }), api.OK
}

// with is samples and a further one, in memory of its own.
func with(l []api.WtSample, further api.WtSample) []api.WtSample {
	return append(slices.Clone(l), further)
}

// listOf is the indices of a set, ascending.
func listOf(set int) (l []int) {
	for ; set != 0; set &= set - 1 {
		l = append(l, bits.TrailingZeros(uint(set)))
	}
	return l
}

// setOf is the set of some indices.
func setOf(l []int) (set int) {
	for _, i := range l {
		set |= 1 << i
	}
	return set
}

// among is whether all of some indices are among others.
func among(l, others []int) bool { return setOf(l)&^setOf(others) == 0 }

// shorter compares lists by their lengths, and then number by number.
func shorter(a, b []int) int {
	if len(a) != len(b) {
		return len(a) - len(b)
	}
	return slices.Compare(a, b)
}

func from(r *rand.Rand, lo, hi int) int { return lo + r.IntN(hi-lo+1) }

func oneOf[T any](r *rand.Rand, l ...T) T { return l[r.IntN(len(l))] }

// sizes tells how large random shores are.
type sizes struct{ yards, tides, wide, shore int }

func small(r *rand.Rand) sizes { return sizes{4, 2, 2, oneOf(r, 5, 15, 40)} }

func anySize(r *rand.Rand) sizes {
	return sizes{5, 3, oneOf(r, 0, 1, 3, 6), oneOf(r, 6, 12, 20, 40, 100)}
}

// randomShore is a shore whose yards lie on a part of it, so that their spills meet.
func randomShore(r *rand.Rand, of sizes) (s api.WtShore) {
	first := from(r, 0, 100-of.shore)
	for i := range oneOf(r, of.yards, of.yards, from(r, 1, of.yards)) {
		s.Yards = append(s.Yards, yard("y"+string(rune('a'+i)), from(r, first, first+of.shore), oneOf(r, 0, 1, 1, 2, 3, 3, 3)))
	}
	r.Shuffle(len(s.Yards), func(i, k int) { s.Yards[i], s.Yards[k] = s.Yards[k], s.Yards[i] })
	for range from(r, 1, of.tides) {
		lo := from(r, -10, 10)
		s.Drifts = append(s.Drifts, span(lo, from(r, lo, min(10, lo+of.wide))))
	}
	s.Spread = oneOf(r, 0, 1, 2, 3, 3, 5, 10)
	return s
}

// randomPlace is a place near which a spill can come on a tide, or any.
func randomPlace(r *rand.Rand, s api.WtShore, tide int) int {
	if r.IntN(6) == 0 {
		return from(r, 0, 100)
	}
	at := oneOf(r, s.Yards...).At
	for _, d := range s.Drifts[from(r, 0, tide) : tide+1] {
		at += oneOf(r, d.Lo, d.Hi, from(r, d.Lo, d.Hi))
	}
	return near(r, s, at)
}

// near is a place that a spill which comes to another one is just in or not, on the shore.
func near(r *rand.Rand, s api.WtShore, at int) int {
	return min(100, max(0, at+oneOf(r, -s.Spread-1, -s.Spread, from(r, -s.Spread, s.Spread), s.Spread, s.Spread+1)))
}

func randomSample(r *rand.Rand, s api.WtShore) api.WtSample {
	tide := r.IntN(len(s.Drifts))
	return api.WtSample{Place: randomPlace(r, s, tide), Tide: tide, Kind: r.IntN(2), Found: r.IntN(4) > 0}
}

// sampleOf is a sample near which a spill of a truth comes.
func sampleOf(r *rand.Rand, s api.WtShore, d []int, p spilt) api.WtSample {
	tide := from(r, p.tide, len(d)-1)
	return foundAt(near(r, s, s.Yards[p.yard].At+total(d[p.tide:tide+1])), tide, p.kind)
}

// randomSamples is at most so many samples, mostly what some truth shows, so that many of them agree.
func randomSamples(r *rand.Rand, s api.WtShore, n int) (l []api.WtSample) {
	u := randomTruth(r, s)
	var met []spilt
	for i, p := range spillsOf(s, nil, u.drifts) {
		if u.spills[i] {
			met = append(met, p)
		}
	}
	for range oneOf(r, n, r.IntN(n+1), min(n, r.IntN(4))) {
		switch {
		case len(l) > 0 && r.IntN(8) == 0:
			l = append(l, oneOf(r, l...))
		case len(met) > 0 && r.IntN(3) > 0:
			l = append(l, sampleOf(r, s, u.drifts, oneOf(r, met...)))
		default:
			l = append(l, randomSample(r, s))
		}
	}
	if r.IntN(5) > 0 {
		tell(s, l, u)
	}
	return l
}

// real is how far water drifts in a truth, and which of all spills that there can be it has.
type real struct {
	drifts []int
	spills []bool
}

func randomTruth(r *rand.Rand, s api.WtShore) (u real) {
	for _, d := range s.Drifts {
		u.drifts = append(u.drifts, oneOf(r, d.Lo, d.Hi, from(r, d.Lo, d.Hi)))
	}
	few := from(r, 2, 8)
	for range spillsOf(s, nil, u.drifts) {
		u.spills = append(u.spills, r.IntN(few) == 0)
	}
	return u
}

// tell makes samples tell what is true, and returns the yards that have a spill, and for each sample those that are in it.
func tell(s api.WtShore, l []api.WtSample, u real) (spilt []int, in [][]int) {
	sets, all := make([]int, len(l)), 0
	for i, p := range spillsOf(s, l, u.drifts) {
		if !u.spills[i] {
			continue
		}
		all |= 1 << p.yard
		for _, k := range listOf(p.in) {
			sets[k] |= 1 << p.yard
		}
	}
	for i, set := range sets {
		l[i].Found = set != 0
		in = append(in, listOf(set))
	}
	return listOf(all), in
}

// foundOf is the numbers of the samples that are Found.
func foundOf(l []api.WtSample) (found []int) {
	for i, x := range l {
		if x.Found {
			found = append(found, i)
		}
	}
	return found
}

// many runs a test with random numbers that are the same in each run.
func many(t *testing.T, n int, test func(r *rand.Rand)) {
	t.Helper()
	for i := range n {
		test(rand.New(rand.NewPCG(uint64(i), 12)))
		if t.Failed() {
			t.Fatalf("failed with the random numbers %d", i)
		}
	}
}

// enough checks that random arguments led to something often enough.
func enough(t *testing.T, what string, n, want int) {
	t.Helper()
	if n < want {
		t.Errorf("%s: only %d times", what, n)
	}
}

// checks, agreeIs, and so on check what a function returns.
func checks(t *testing.T, what any, s api.WtShore, part, at int, e api.Errno) {
	t.Helper()
	if p, a, f := water.Check(s); p != part || a != at || f != e {
		t.Errorf("%v: Check of %+v = %d, %d, %d; want %d, %d, %d", what, s, p, a, f, part, at, e)
	}
}

func agreeIs(t *testing.T, what any, s api.WtShore, l []api.WtSample, want bool, e api.Errno) {
	t.Helper()
	if is, f := water.Agree(s, l); is != want || f != e {
		t.Errorf("%v: Agree of %+v, %+v = %v, %d; want %v, %d", what, s, l, is, f, want, e)
	}
}

func canIs(t *testing.T, what any, s api.WtShore, l []api.WtSample, i int, want []int, e api.Errno) {
	t.Helper()
	if n, f := water.Can(s, l, i); !slices.Equal(n, want) || f != e {
		t.Errorf("%v: Can of %+v, %+v, %d = %v, %d; want %v, %d", what, s, l, i, n, f, want, e)
	}
}

func sourcesAre(t *testing.T, what any, s api.WtShore, l []api.WtSample, want []int, e api.Errno) {
	t.Helper()
	if n, f := water.Sources(s, l); !slices.Equal(n, want) || f != e {
		t.Errorf("%v: Sources of %+v, %+v = %v, %d; want %v, %d", what, s, l, n, f, want, e)
	}
}

func mustIs(t *testing.T, what any, s api.WtShore, l []api.WtSample, want []int, e api.Errno) {
	t.Helper()
	if n, f := water.Must(s, l); !slices.Equal(n, want) || f != e {
		t.Errorf("%v: Must of %+v, %+v = %v, %d; want %v, %d", what, s, l, n, f, want, e)
	}
}

func fewestIs(t *testing.T, what any, s api.WtShore, l []api.WtSample, want []int, e api.Errno) {
	t.Helper()
	if n, f := water.Fewest(s, l); !slices.Equal(n, want) || f != e {
		t.Errorf("%v: Fewest of %+v, %+v = %v, %d; want %v, %d", what, s, l, n, f, want, e)
	}
}

func askIs(t *testing.T, what any, s api.WtShore, l []api.WtSample, i int, places []int, want asked, e api.Errno) {
	t.Helper()
	at, tide, kind, left, f := water.Ask(s, l, i, places)
	if got := (asked{at, tide, kind, left}); got != want || f != e {
		t.Errorf("%v: Ask of %+v, %+v, %d at %v = %+v, %d; want %+v, %d", what, s, l, i, places, got, f, want, e)
	}
}

// errorsAre checks that all functions but Check, of which these are, return an error, and nothing else: those without a number of a sample, and those with one.
func errorsAre(t *testing.T, what any, s api.WtShore, l []api.WtSample, e api.Errno) {
	t.Helper()
	agreeIs(t, what, s, l, false, e)
	sourcesAre(t, what, s, l, nil, e)
	mustIs(t, what, s, l, nil, e)
	fewestIs(t, what, s, l, nil, e)
}

func numberErrors(t *testing.T, what any, s api.WtShore, l []api.WtSample, i int, places []int, e api.Errno) {
	t.Helper()
	canIs(t, what, s, l, i, nil, e)
	askIs(t, what, s, l, i, places, asked{}, e)
}
