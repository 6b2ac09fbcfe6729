package water_test

import (
	"slices"
	"testing"

	"orlop/api"
)

// traced checks what all functions but Ask say of samples that some truth agrees with: which yards can be in those that are Found, in their order, which ones can be a source, which must, and the fewest.
func traced(t *testing.T, what any, s api.WtShore, l []api.WtSample, can [][]int, sources, must, fewest []int) {
	t.Helper()
	agreeIs(t, what, s, l, true, api.OK)
	for k, i := range foundOf(l) {
		canIs(t, what, s, l, i, can[k], api.OK)
	}
	sourcesAre(t, what, s, l, sources, api.OK)
	mustIs(t, what, s, l, must, api.OK)
	fewestIs(t, what, s, l, fewest, api.OK)
}

// TestExamples is P12.2 to P12.5: the examples of the chapter.
func TestExamples(t *testing.T) {
	s, f, n, g := sampleS(), sampleF(), sampleN(), sampleG()
	agreeIs(t, "F and N", s, samples(f, n), true, api.OK)
	not := f
	not.Found = false
	errorsDown(t, "F, and the same not Found", s, samples(f, not))
	canIs(t, "F", s, samples(f), 0, ints(0, 1), api.OK)
	canIs(t, "F with N", s, samples(f, n), 0, ints(0), api.OK)
	canIs(t, "G with F", s, samples(g, f), 0, ints(1, 2), api.OK)
	canIs(t, "G with F", s, samples(f, g), 1, ints(1, 2), api.OK)
	sourcesAre(t, "F and G", s, samples(f, g), ints(0, 1, 2), api.OK)
	mustIs(t, "F", s, samples(f), nil, api.OK)
	mustIs(t, "F and N", s, samples(f, n), ints(0), api.OK)
	mustIs(t, "F and G", s, samples(f, g), nil, api.OK)
	fewestIs(t, "F", s, samples(f), ints(0), api.OK)
	fewestIs(t, "F and G", s, samples(f, g), ints(0, 1), api.OK)
	askIs(t, "F", s, samples(f), 0, ints(12, 24), asked{1, 0, 0, 1}, api.OK)
}

// reaches checks at which places a sample of a tide and a kind can be Found: at these alone.
func reaches(t *testing.T, what any, s api.WtShore, tide, kind int, places []int) {
	t.Helper()
	for place := range 101 {
		agreeIs(t, what, s, samples(foundAt(place, tide, kind)), slices.Contains(places, place), api.OK)
		agreeIs(t, what, s, samples(cleanAt(place, tide, kind)), true, api.OK)
	}
}

// places is all numbers from one to another one.
func places(lo, hi int) (l []int) {
	for n := lo; n <= hi; n++ {
		l = append(l, n)
	}
	return l
}

// TestSpread is P12.2: spills just at Spread, and one beyond.
func TestSpread(t *testing.T) {
	for n, want := range map[int][]int{0: places(55, 55), 1: places(54, 56), 3: places(52, 58), 10: places(45, 65)} {
		reaches(t, n, calm(n, ints(5), yard("a", 50, 1)), 0, 0, want)
	}
	reaches(t, "a span", shoreOf(2, spans(span(-1, 4)), yard("a", 50, 1)), 0, 0, places(47, 56))
	reaches(t, "the widest one", shoreOf(0, spans(span(4, 10)), yard("a", 50, 1)), 0, 0, places(54, 60))
	reaches(t, "two yards", calm(1, ints(5), yard("a", 50, 1), yard("b", 20, 1)), 0, 0, append(places(24, 26), places(54, 56)...))
}

// TestTides is P12.2: spills of earlier tides, and of the same one; none of later ones.
func TestTides(t *testing.T) {
	s := calm(0, ints(5, -7, 2), yard("a", 50, 1))
	reaches(t, "the first tide", s, 0, 0, ints(55))
	reaches(t, "the second one", s, 1, 0, ints(43, 48))
	reaches(t, "the last one", s, 2, 0, ints(45, 50, 52))
	s = shoreOf(1, spans(span(10, 10), span(-1, 0)), yard("a", 50, 1))
	reaches(t, "the first tide", s, 0, 0, places(59, 61))
	reaches(t, "the last one", s, 1, 0, append(places(48, 51), places(58, 61)...))
}

// TestKinds is P12.2: spills of another kind, and yards without one.
func TestKinds(t *testing.T) {
	for kinds, want := range [4][2][]int{{nil, nil}, {ints(55), nil}, {nil, ints(55)}, {ints(55), ints(55)}} {
		s := calm(0, ints(5), yard("a", 50, kinds))
		reaches(t, kinds, s, 0, 0, want[0])
		reaches(t, kinds, s, 0, 1, want[1])
	}
	s := calm(1, ints(0), yard("a", 50, 1), yard("b", 50, 2), yard("c", 51, 3), yard("d", 51, 0))
	traced(t, "both kinds", s, samples(foundAt(50, 0, 0), foundAt(50, 0, 1)), [][]int{ints(0, 2), ints(1, 2)}, ints(0, 1, 2), nil, ints(2))
	// A sample that is not Found takes away spills of its kind alone.
	traced(t, "another kind", s, samples(foundAt(50, 0, 0), cleanAt(50, 0, 1)), [][]int{ints(0, 2)}, ints(0, 2), nil, ints(0))
	traced(t, "the same kind", s, samples(foundAt(50, 0, 0), cleanAt(52, 0, 0)), [][]int{ints(0)}, ints(0), ints(0), ints(0))
}

// TestBeyondTheShore is P12.2: what drifts beyond an end of the shore comes back, and spreads.
func TestBeyondTheShore(t *testing.T) {
	s := calm(0, ints(10, -9), yard("a", 98, 1))
	reaches(t, "beyond the far end", s, 0, 0, nil)
	reaches(t, "back from the far end", s, 1, 0, ints(89, 99))
	s = calm(0, ints(-10, 9), yard("a", 2, 1))
	reaches(t, "beyond the near end", s, 0, 0, nil)
	reaches(t, "back from the near end", s, 1, 0, ints(1, 11))
	reaches(t, "spread from beyond", calm(3, ints(5), yard("a", 98, 1)), 0, 0, ints(100))
	reaches(t, "not so far", calm(3, ints(6), yard("a", 98, 1)), 0, 0, nil)
	reaches(t, "spread from beyond", calm(3, ints(-5), yard("a", 2, 1)), 0, 0, ints(0))
	reaches(t, "not so far", calm(3, ints(-6), yard("a", 2, 1)), 0, 0, nil)
	reaches(t, "far beyond, and back", calm(10, ints(10, 10, -10), yard("a", 100, 1)), 2, 0, append(places(80, 100), places(100, 100)...))
}

// TestTakenAway is P12.2: a sample that is not Found takes away what another one needs.
func TestTakenAway(t *testing.T) {
	s := shoreOf(1, spans(span(0, 1)), yard("a", 50, 1))
	one := [][]int{ints(0)}
	traced(t, "alone", s, samples(foundAt(50, 0, 0)), one, ints(0), ints(0), ints(0))
	traced(t, "no drift", s, samples(foundAt(50, 0, 0), cleanAt(52, 0, 0)), one, ints(0), ints(0), ints(0))
	traced(t, "a drift", s, samples(foundAt(50, 0, 0), cleanAt(49, 0, 0)), one, ints(0), ints(0), ints(0))
	errorsDown(t, "neither", s, samples(foundAt(50, 0, 0), cleanAt(49, 0, 0), cleanAt(52, 0, 0)))
	errorsDown(t, "told first", s, samples(cleanAt(49, 0, 0), cleanAt(52, 0, 0), foundAt(50, 0, 0)))
	errorsDown(t, "the same", s, samples(foundAt(50, 0, 0), cleanAt(50, 0, 0)))
	errorsDown(t, "the same", s, samples(cleanAt(50, 0, 0), foundAt(50, 0, 0)))
	errorsDown(t, "nowhere", s, samples(foundAt(90, 0, 0)))
	// A spill of an earlier tide is in both, one of the later tide only in that of the later tide.
	still := calm(0, ints(0, 0), yard("a", 50, 1))
	traced(t, "later", still, samples(foundAt(50, 1, 0), cleanAt(50, 0, 0)), one, ints(0), ints(0), ints(0))
	errorsDown(t, "earlier", still, samples(foundAt(50, 0, 0), cleanAt(50, 1, 0)))
	// One spill of a yard is taken away, another one of it is not, and agrees with both samples.
	s = calm(0, ints(5, 5), yard("a", 50, 1), yard("b", 45, 1))
	traced(t, "the spill of a later tide", s, samples(foundAt(55, 1, 0), cleanAt(50, 0, 0)), one, ints(0), ints(0), ints(0))
	traced(t, "that of an earlier one", s, samples(foundAt(55, 1, 0)), [][]int{ints(0, 1)}, ints(0, 1), nil, ints(0))
}

// TestOneDrift is P12.2: all water drifts as far on a tide, for all samples and yards.
func TestOneDrift(t *testing.T) {
	s := shoreOf(0, spans(span(0, 6), span(-2, 0)), yard("a", 10, 1), yard("b", 50, 1))
	traced(t, "as far", s, samples(foundAt(13, 0, 0), foundAt(53, 0, 0)), [][]int{ints(0), ints(1)}, ints(0, 1), ints(0, 1), ints(0, 1))
	errorsDown(t, "not as far", s, samples(foundAt(13, 0, 0), foundAt(54, 0, 0)))
	traced(t, "a later tide", s, samples(foundAt(13, 0, 0), foundAt(51, 1, 0)), [][]int{ints(0), ints(1)}, ints(0, 1), ints(0, 1), ints(0, 1))
	errorsDown(t, "a later tide, not as far", s, samples(foundAt(13, 0, 0), foundAt(54, 1, 0)))
	errorsDown(t, "two tides", s, samples(foundAt(13, 0, 0), foundAt(51, 1, 0), foundAt(10, 1, 0)))
	traced(t, "two tides", s, samples(foundAt(13, 0, 0), foundAt(51, 1, 0), foundAt(11, 1, 0)), [][]int{ints(0), ints(1), ints(0)}, ints(0, 1), ints(0, 1), ints(0, 1))
	// Either yard can be in the sample, by different drifts.
	near := shoreOf(1, spans(span(0, 3)), yard("a", 9, 1), yard("b", 12, 1), yard("c", 50, 2))
	traced(t, "either", near, samples(foundAt(12, 0, 0)), [][]int{ints(0, 1)}, ints(0, 1), nil, ints(0))
	traced(t, "the other kind tells", near, samples(foundAt(12, 0, 0), foundAt(49, 0, 1)), [][]int{ints(1), ints(2)}, ints(1, 2), ints(1, 2), ints(1, 2))
	traced(t, "the other kind tells", near, samples(foundAt(12, 0, 0), foundAt(54, 0, 1)), [][]int{ints(0), ints(2)}, ints(0, 2), ints(0, 2), ints(0, 2))
}

// TestTold is P12.2 to P12.4: no sample, none that is Found, and samples that are told twice.
func TestTold(t *testing.T) {
	s, f, n, g := sampleS(), sampleF(), sampleN(), sampleG()
	for i, l := range [][]api.WtSample{nil, samples(n), samples(n, n), samples(n, cleanAt(22, 0, 0), cleanAt(50, 1, 1)), make([]api.WtSample, 8)} {
		traced(t, i, s, l, nil, nil, nil, nil)
	}
	traced(t, "twice", s, samples(f, f), [][]int{ints(0, 1), ints(0, 1)}, ints(0, 1), nil, ints(0))
	traced(t, "twice, and another one", s, samples(n, f, n, f), [][]int{ints(0), ints(0)}, ints(0), ints(0), ints(0))
	traced(t, "eight", s, samples(f, f, f, f, f, f, f, g), append(slices.Repeat([][]int{ints(0, 1)}, 7), ints(1, 2)), ints(0, 1, 2), nil, ints(0, 1))
}

// TestEight is P12.2 to P12.4: as many samples and yards as can be.
func TestEight(t *testing.T) {
	s := calm(0, ints(1, 1, 1), yard("a", 10, 3), yard("b", 20, 3), yard("c", 30, 3), yard("d", 40, 3), yard("e", 50, 3))
	l := samples(foundAt(11, 0, 0), foundAt(21, 1, 1), foundAt(31, 2, 0), foundAt(42, 1, 1), foundAt(53, 2, 0), cleanAt(99, 2, 0), foundAt(51, 2, 1), foundAt(52, 2, 0))
	traced(t, "eight", s, l, [][]int{ints(0), ints(1), ints(2), ints(3), ints(4), ints(4), ints(4)}, ints(0, 1, 2, 3, 4), ints(0, 1, 2, 3, 4), ints(0, 1, 2, 3, 4))
	l[5] = cleanAt(52, 2, 0)
	errorsDown(t, "the last one is taken away", s, l)
	l[5] = cleanAt(52, 1, 0)
	errorsDown(t, "that of the first tide is taken away", s, l)
	l[5] = cleanAt(52, 2, 1)
	traced(t, "another kind", s, l, [][]int{ints(0), ints(1), ints(2), ints(3), ints(4), ints(4), ints(4)}, ints(0, 1, 2, 3, 4), ints(0, 1, 2, 3, 4), ints(0, 1, 2, 3, 4))
}

// TestMust is P12.3: yards that must be a source, and those of which any can be.
func TestMust(t *testing.T) {
	s := calm(2, ints(0), yard("a", 10, 1), yard("b", 13, 1), yard("c", 40, 1), yard("d", 41, 2))
	for i, c := range []struct {
		l                     []api.WtSample
		can                   [][]int
		sources, must, fewest []int
	}{
		{samples(foundAt(9, 0, 0)), [][]int{ints(0)}, ints(0), ints(0), ints(0)},
		{samples(foundAt(12, 0, 0)), [][]int{ints(0, 1)}, ints(0, 1), nil, ints(0)},
		{samples(foundAt(14, 0, 0)), [][]int{ints(1)}, ints(1), ints(1), ints(1)},
		{samples(foundAt(40, 0, 0)), [][]int{ints(2)}, ints(2), ints(2), ints(2)},
		{samples(foundAt(40, 0, 1)), [][]int{ints(3)}, ints(3), ints(3), ints(3)},
		{samples(foundAt(12, 0, 0), foundAt(9, 0, 0)), [][]int{ints(0, 1), ints(0)}, ints(0, 1), ints(0), ints(0)},
		{samples(foundAt(12, 0, 0), foundAt(14, 0, 0)), [][]int{ints(0, 1), ints(1)}, ints(0, 1), ints(1), ints(1)},
		{samples(foundAt(12, 0, 0), cleanAt(9, 0, 0)), [][]int{ints(1)}, ints(1), ints(1), ints(1)},
		{samples(foundAt(12, 0, 0), cleanAt(14, 0, 0)), [][]int{ints(0)}, ints(0), ints(0), ints(0)},
		{samples(foundAt(12, 0, 0), foundAt(40, 0, 0)), [][]int{ints(0, 1), ints(2)}, ints(0, 1, 2), ints(2), ints(0, 2)},
		{samples(foundAt(12, 0, 0), foundAt(40, 0, 1)), [][]int{ints(0, 1), ints(3)}, ints(0, 1, 3), ints(3), ints(0, 3)},
		{samples(foundAt(9, 0, 0), foundAt(14, 0, 0)), [][]int{ints(0), ints(1)}, ints(0, 1), ints(0, 1), ints(0, 1)},
	} {
		traced(t, i, s, c.l, c.can, c.sources, c.must, c.fewest)
	}
	// By one drift the first yard is a source alone, by another one the second and the third are: none must be, and one is enough.
	s = shoreOf(0, spans(span(0, 1)), yard("a", 19, 3), yard("b", 20, 1), yard("c", 20, 2))
	l := samples(foundAt(20, 0, 0), foundAt(20, 0, 1))
	traced(t, "either one or two", s, l, [][]int{ints(0, 1), ints(0, 2)}, ints(0, 1, 2), nil, ints(0))
	s.Yards[0], s.Yards[2] = s.Yards[2], s.Yards[0]
	traced(t, "either two or one", s, l, [][]int{ints(1, 2), ints(0, 2)}, ints(0, 1, 2), nil, ints(2))
}

// TestFewest is P12.4: of several sets that are as small the first one, as their lists are compared.
func TestFewest(t *testing.T) {
	// The samples need 0 or 1, 0 or 2, 2 or 3, and 1 or 3: as numbers by bits, 1 and 2 would come before 0 and 3.
	s := calm(2, ints(10, 0), yard("a", 14, 1), yard("b", 10, 1), yard("c", 18, 1), yard("d", 22, 1))
	l := samples(foundAt(22, 0, 0), foundAt(26, 0, 0), foundAt(30, 0, 0), foundAt(21, 1, 0))
	traced(t, "a ring", s, l, [][]int{ints(0, 1), ints(0, 2), ints(2, 3), ints(1, 3)}, ints(0, 1, 2, 3), nil, ints(0, 3))
	s.Yards[0], s.Yards[1] = s.Yards[1], s.Yards[0]
	fewestIs(t, "turned", s, l, ints(0, 2), api.OK)
	s.Yards[0], s.Yards[2] = s.Yards[2], s.Yards[0]
	fewestIs(t, "turned again", s, l, ints(0, 2), api.OK)
	s.Yards[1], s.Yards[2] = s.Yards[2], s.Yards[1]
	fewestIs(t, "and again", s, l, ints(0, 1), api.OK)
	// Of three yards, two of which are needed, all pairs do.
	s = calm(2, ints(0), yard("a", 11, 1), yard("b", 13, 1), yard("c", 15, 1))
	fewestIs(t, "one does", s, samples(foundAt(12, 0, 0), foundAt(14, 0, 0)), ints(1), api.OK)
	fewestIs(t, "two do", s, samples(foundAt(9, 0, 0), foundAt(14, 0, 0)), ints(0, 1), api.OK)
	fewestIs(t, "other two do", s, samples(foundAt(12, 0, 0), foundAt(17, 0, 0)), ints(0, 2), api.OK)
	fewestIs(t, "no smaller one", s, samples(foundAt(9, 0, 0), foundAt(17, 0, 0), foundAt(13, 0, 0)), ints(0, 2), api.OK)
}

// TestAsk is P12.5: what samples leave, and of those that leave as many the first one.
func TestAsk(t *testing.T) {
	s, l := sampleS(), samples(sampleF())
	early := shoreOf(3, spans(span(0, 0), span(5, 10)), s.Yards[:2]...)
	later := samples(foundAt(22, 1, 0))
	other := shoreOf(1, spans(span(0, 2)), yard("a", 9, 1), yard("b", 12, 1), yard("c", 50, 2))
	kinds := samples(foundAt(12, 0, 0), foundAt(51, 0, 1))
	for i, c := range []struct {
		s      api.WtShore
		l      []api.WtSample
		sample int
		places []int
		want   asked
	}{
		// Those that leave as many: by places first, then by tides and kinds.
		{s, l, 0, ints(12), asked{0, 0, 0, 2}},
		{s, l, 0, ints(12, 12, 12, 12), asked{0, 0, 0, 2}},
		{s, l, 0, ints(24), asked{0, 0, 0, 1}},
		{s, l, 0, ints(24, 12), asked{0, 0, 0, 1}},
		{s, l, 0, ints(24, 24), asked{0, 0, 0, 1}},
		{s, l, 0, ints(24, 25), asked{0, 0, 0, 1}},
		{s, l, 0, ints(25, 24), asked{0, 0, 0, 1}},
		{s, l, 0, ints(12, 24, 24, 25), asked{1, 0, 0, 1}},
		{s, l, 0, ints(100, 0, 12, 24), asked{3, 0, 0, 1}},
		// The same as the given one: it cannot be clean. Far from all: it cannot be found.
		{s, l, 0, ints(22), asked{0, 0, 0, 2}},
		{s, l, 0, ints(100), asked{0, 0, 0, 2}},
		// Another sample of the list is the given one.
		{s, samples(sampleN(), sampleF()), 1, ints(12, 24), asked{0, 0, 0, 1}},
		{s, samples(sampleF(), sampleN(), sampleF()), 2, ints(24), asked{0, 0, 0, 1}},
		// A later tide tells, and the other kind does.
		{early, later, 0, ints(24), asked{0, 1, 0, 1}},
		{early, later, 0, ints(12, 24), asked{1, 1, 0, 1}},
		{other, kinds, 0, ints(53), asked{0, 0, 1, 1}},
		{other, kinds, 0, ints(80, 53, 53), asked{1, 0, 1, 1}},
		{other, kinds, 1, ints(80, 53), asked{0, 0, 0, 1}},
	} {
		askIs(t, i, c.s, c.l, c.sample, c.places, c.want, api.OK)
		if want, e := askOf(c.s, c.l, c.sample, c.places); want != c.want || e != api.OK {
			t.Errorf("%d: by the words of the chapter, Ask is %+v, %d", i, want, e)
		}
	}
}

// TestEveryPlace is P12.5: a sample at each place of a shore.
func TestEveryPlace(t *testing.T) {
	one := ints()
	for place := range 101 {
		want, e := askOf(sampleS(), samples(sampleF()), 0, ints(place))
		askIs(t, place, sampleS(), samples(sampleF()), 0, ints(place), want, e)
		if want.left == 1 {
			one = append(one, place)
		}
	}
	// What comes to these places tells how far all water drifts: just 5, or 9 or 10.
	for _, place := range ints(24, 25) {
		if !slices.Contains(one, place) {
			t.Errorf("a sample at one of %v tells the yards apart, at %d it does not", one, place)
		}
	}
}
