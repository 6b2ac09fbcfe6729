package water_test

import (
	"strings"
	"testing"

	"orlop/api"
)

// long is the longest name.
var long = strings.Repeat("z", 16)

// noNames is strings that are no names.
func noNames() []string {
	return words("", "-", " ", "A", "North", "1a", "a b", "a\x00", "a\n", "\na", "ä", "\xff", "a\xff", long+"z", strings.Repeat("a", 100000))
}

// shoreHas checks the error of a shore, of all functions with one, whatever else they are handed.
func shoreHas(t *testing.T, what any, s api.WtShore, part, at int, e api.Errno) {
	t.Helper()
	if e == api.OK {
		checks(t, what, s, 0, 0, api.OK)
		agreeIs(t, what, s, nil, true, api.OK)
		sourcesAre(t, what, s, nil, nil, api.OK)
		return
	}
	checks(t, what, s, part, at, e)
	for _, l := range [][]api.WtSample{nil, samples(sampleF()), samples(foundAt(-1, -1, -1)), make([]api.WtSample, 9)} {
		errorsAre(t, what, s, l, e)
		numberErrors(t, what, s, l, 0, ints(12, 24), e)
		numberErrors(t, what, s, l, -1, nil, e)
	}
}

// listHas checks the error of samples along S, of all functions with them; OK is only that of Agree.
func listHas(t *testing.T, what any, l []api.WtSample, e api.Errno) {
	t.Helper()
	if e == api.OK {
		agreeIs(t, what, sampleS(), l, agreeOf(sampleS(), l), api.OK)
		return
	}
	errorsAre(t, what, sampleS(), l, e)
	numberErrors(t, what, sampleS(), l, 0, ints(12, 24), e)
	numberErrors(t, what, sampleS(), l, -1, nil, e)
	numberErrors(t, what, sampleS(), l, len(l), ints(-1), e)
}

// yards is so many yards.
func yards(n int) (l []api.WtYard) {
	for i := range n {
		l = append(l, yard("y"+string(rune('0'+i)), 10*i, i%4))
	}
	return l
}

// TestLimits is the limits of the chapter.
func TestLimits(t *testing.T) {
	if api.MaxWtYards != 5 || api.MaxWtKinds != 2 || api.MaxWtTides != 3 || api.MaxWtShore != 100 || api.MaxWtDrift != 10 || api.MaxWtWide != 6 || api.MaxWtSpread != 10 || api.MaxWtSamples != 8 || api.MaxWtPlaces != 4 || api.MaxName != 16 {
		t.Error("the limits are not those of the chapter")
	}
}

// TestCheckSizes is P12.1: how many yards and drifts there are, and the spread.
func TestCheckSizes(t *testing.T) {
	for n, e := range map[int]api.Errno{0: api.ErrLong, 1: api.OK, 2: api.OK, 5: api.OK, 6: api.ErrLong} {
		shoreHas(t, n, calm(3, ints(0), yards(n)...), 1, 0, e)
	}
	for n, e := range map[int]api.Errno{0: api.ErrLong, 1: api.OK, 2: api.OK, 3: api.OK, 4: api.ErrLong} {
		shoreHas(t, n, shoreOf(3, make([]api.Span, n), yards(2)...), 1, 0, e)
	}
	for _, n := range ints(256, 257, 100000) {
		shoreHas(t, n, calm(3, ints(0), make([]api.WtYard, n)...), 1, 0, api.ErrLong)
		shoreHas(t, n, shoreOf(3, make([]api.Span, n), yards(2)...), 1, 0, api.ErrLong)
	}
	for n, e := range map[int]api.Errno{-1: api.ErrRange, 0: api.OK, 1: api.OK, 10: api.OK, 11: api.ErrRange} {
		shoreHas(t, n, calm(n, ints(0), yards(2)...), 1, 0, e)
	}
	for _, n := range far() {
		shoreHas(t, n, calm(n, ints(0), yards(2)...), 1, 0, api.ErrRange)
	}
	shoreHas(t, "nothing", api.WtShore{}, 1, 0, api.ErrLong)
	shoreHas(t, "the sample", sampleS(), 0, 0, api.OK)
}

// TestCheckNames is P12.1: names of yards that are none, or told twice.
func TestCheckNames(t *testing.T) {
	for _, name := range noNames() {
		shoreHas(t, name, calm(3, ints(0), yard(name, 1, 1)), 2, 0, api.ErrForm)
		shoreHas(t, name, calm(3, ints(0), yard("a", 1, 1), yard(name, 2, 1), yard("a", 3, 1)), 2, 1, api.ErrForm)
	}
	for i, c := range []struct {
		names []string
		at    int
		e     api.Errno
	}{
		{words("a"), 0, api.OK},
		{words(long, "a", "a0", "aa", "b"), 0, api.OK},
		{words("a", "a"), 1, api.ErrTwice},
		{words("a", "b", "a"), 2, api.ErrTwice},
		{words("a", "b", "b", "a"), 2, api.ErrTwice},
		{words("a", "b", "c", "d", "a"), 4, api.ErrTwice},
		{words("", ""), 0, api.ErrForm},
		{words("a", "", ""), 1, api.ErrForm},
	} {
		s := calm(3, ints(0))
		for k, name := range c.names {
			s.Yards = append(s.Yards, yard(name, k, k%4))
		}
		shoreHas(t, i, s, 2, c.at, c.e)
	}
}

// TestCheckYards is P12.1: where yards are, and their kinds.
func TestCheckYards(t *testing.T) {
	with := func(at, kinds int) api.WtShore {
		return calm(3, ints(0), yard("a", 1, 1), yard("b", at, kinds))
	}
	for i, c := range []struct {
		at, kinds int
		e         api.Errno
	}{
		{0, 1, api.OK},
		{100, 1, api.OK},
		{-1, 1, api.ErrRange},
		{101, 1, api.ErrRange},
		{1, 1, api.OK}, // where another one is
		{50, 0, api.OK},
		{50, 2, api.OK},
		{50, 3, api.OK},
		{50, -1, api.ErrRange},
		{50, 4, api.ErrRange},
		{50, 5, api.ErrRange},
		{50, 8, api.ErrRange},
		{50, 65537, api.ErrRange},
		{101, 4, api.ErrRange},
	} {
		shoreHas(t, i, with(c.at, c.kinds), 2, 1, c.e)
	}
	for _, n := range far() {
		shoreHas(t, n, with(n, 1), 2, 1, api.ErrRange)
		shoreHas(t, n, with(1, n), 2, 1, api.ErrRange)
		shoreHas(t, n, with(n, n), 2, 1, api.ErrRange)
	}
}

// TestCheckDrifts is P12.1: how far water can drift.
func TestCheckDrifts(t *testing.T) {
	with := func(lo, hi int) api.WtShore { return shoreOf(3, spans(span(0, 6), span(lo, hi)), yards(2)...) }
	for i, c := range []struct {
		lo, hi int
		e      api.Errno
	}{
		{0, 0, api.OK},
		{-10, -10, api.OK},
		{10, 10, api.OK},
		{-10, -4, api.OK},
		{4, 10, api.OK},
		{-3, 3, api.OK},
		{-3, 4, api.ErrArg},
		{-10, -3, api.ErrArg},
		{3, 10, api.ErrArg},
		{-10, 10, api.ErrArg},
		{1, 0, api.ErrArg},
		{10, -10, api.ErrArg},
		{-9, -10, api.ErrArg},
		{-11, -10, api.ErrRange},
		{-11, -11, api.ErrRange},
		{10, 11, api.ErrRange},
		{11, 11, api.ErrRange},
		{-11, 11, api.ErrRange},
		{11, -11, api.ErrRange},
		{11, 0, api.ErrRange},
		{0, -11, api.ErrRange},
		{3, 11, api.ErrRange},
	} {
		shoreHas(t, i, with(c.lo, c.hi), 3, 1, c.e)
	}
	for _, n := range far() {
		shoreHas(t, n, with(n, 0), 3, 1, api.ErrRange)
		shoreHas(t, n, with(0, n), 3, 1, api.ErrRange)
		shoreHas(t, n, with(n, n), 3, 1, api.ErrRange)
		shoreHas(t, n, with(n, least), 3, 1, api.ErrRange)
		shoreHas(t, n, with(greatest, n), 3, 1, api.ErrRange)
	}
	shoreHas(t, "the first one", shoreOf(3, spans(span(1, 0)), yards(1)...), 3, 0, api.ErrArg)
	shoreHas(t, "the last one", shoreOf(3, spans(span(0, 0), span(0, 6), span(0, 7)), yards(1)...), 3, 2, api.ErrArg)
}

// TestCheckOrder is P12.1 and R1: of several errors the one that is named first.
func TestCheckOrder(t *testing.T) {
	bad, good, wrong := yard("", -1, 4), yard("a", 1, 1), span(11, -11)
	for i, c := range []struct {
		s        api.WtShore
		part, at int
		e        api.Errno
	}{
		{shoreOf(-1, spans(wrong)), 1, 0, api.ErrLong},
		{shoreOf(11, nil, bad), 1, 0, api.ErrLong},
		{shoreOf(11, make([]api.Span, 4), good), 1, 0, api.ErrLong},
		{shoreOf(11, spans(wrong), make([]api.WtYard, 6)...), 1, 0, api.ErrLong},
		{shoreOf(3, spans(wrong), make([]api.WtYard, 6)...), 1, 0, api.ErrLong},
		{shoreOf(3, make([]api.Span, 4), bad), 1, 0, api.ErrLong},
		{shoreOf(11, spans(wrong), bad), 1, 0, api.ErrRange},
		{shoreOf(-1, spans(wrong), good), 1, 0, api.ErrRange},
		{shoreOf(3, spans(wrong), bad, bad), 2, 0, api.ErrForm},
		{shoreOf(3, spans(wrong), good, bad), 2, 1, api.ErrForm},
		{shoreOf(3, spans(wrong), good, yard("a", 101, 4), bad), 2, 1, api.ErrTwice},
		{shoreOf(3, spans(wrong), good, yard("a", 1, -1), bad), 2, 1, api.ErrTwice},
		{shoreOf(3, spans(wrong), good, yard("B", 101, 1), bad), 2, 1, api.ErrForm},
		{shoreOf(3, spans(wrong), good, yard("b", 101, 1), bad), 2, 1, api.ErrRange},
		{shoreOf(3, spans(wrong), good, yard("b", 1, 4), good), 2, 1, api.ErrRange},
		{shoreOf(3, spans(wrong), yard("a", 1, 4), good), 2, 0, api.ErrRange},
		{shoreOf(3, spans(wrong, span(1, 0)), good), 3, 0, api.ErrRange},
		{shoreOf(3, spans(span(1, 0), wrong), good), 3, 0, api.ErrArg},
		{shoreOf(3, spans(span(0, 7), wrong), good), 3, 0, api.ErrArg},
		{shoreOf(3, spans(span(0, 6), span(0, 11), span(0, 7)), good), 3, 1, api.ErrRange},
		{shoreOf(3, spans(span(0, 6), span(-11, 0), span(0, 7)), good), 3, 1, api.ErrRange},
	} {
		shoreHas(t, i, c.s, c.part, c.at, c.e)
	}
}

// TestListErrors is the error of the samples: how many they are, tides, kinds and places, the first one with an error, and its first error.
func TestListErrors(t *testing.T) {
	good := sampleF()
	for n, e := range map[int]api.Errno{0: api.OK, 1: api.OK, 8: api.OK, 9: api.ErrLong, 256: api.ErrLong, 100000: api.ErrLong} {
		listHas(t, n, make([]api.WtSample, n), e)
	}
	listHas(t, "too many, with errors", make([]api.WtSample, 9, 10)[:9], api.ErrLong)
	for i, c := range []struct {
		x api.WtSample
		e api.Errno
	}{
		{foundAt(0, 0, 0), api.OK},
		{foundAt(100, 1, 1), api.OK},
		{cleanAt(0, 1, 0), api.OK},
		{cleanAt(100, 0, 1), api.OK},
		{foundAt(-1, 0, 0), api.ErrRange},
		{foundAt(101, 0, 0), api.ErrRange},
		{cleanAt(-1, 1, 1), api.ErrRange},
		{cleanAt(101, 1, 1), api.ErrRange},
		{foundAt(50, -1, 0), api.ErrNone},
		{foundAt(50, 2, 0), api.ErrNone}, // there are two tides
		{cleanAt(50, 3, 0), api.ErrNone},
		{foundAt(50, 0, -1), api.ErrNone},
		{foundAt(50, 0, 2), api.ErrNone},
		{cleanAt(50, 1, 3), api.ErrNone},
		{foundAt(-1, 2, 0), api.ErrNone},
		{foundAt(101, 0, 2), api.ErrNone},
		{foundAt(101, -1, -1), api.ErrNone},
	} {
		listHas(t, i, samples(c.x), c.e)
		listHas(t, i, samples(good, c.x), c.e)
		listHas(t, i, samples(good, good, good, good, good, good, good, c.x), c.e)
		listHas(t, i, append(make([]api.WtSample, 8), c.x), api.ErrLong)
	}
	for _, n := range far() {
		listHas(t, n, samples(foundAt(n, 0, 0)), api.ErrRange)
		listHas(t, n, samples(foundAt(50, n, 0)), api.ErrNone)
		listHas(t, n, samples(foundAt(50, 0, n)), api.ErrNone)
		listHas(t, n, samples(foundAt(n, n, n)), api.ErrNone)
	}
	listHas(t, "a place first", samples(foundAt(101, 0, 0), foundAt(50, 2, 0)), api.ErrRange)
	listHas(t, "a tide first", samples(foundAt(50, 2, 0), foundAt(101, 0, 0)), api.ErrNone)
	listHas(t, "a kind first", samples(good, foundAt(50, 0, 2), foundAt(101, 0, 0)), api.ErrNone)
}

// TestTidesOfShores is the error of the samples along shores with one tide and with three.
func TestTidesOfShores(t *testing.T) {
	for n := 1; n <= 3; n++ {
		s := calm(0, make([]int, n), yard("a", 50, 3))
		agreeIs(t, n, s, samples(foundAt(50, n-1, 1)), true, api.OK)
		errorsAre(t, n, s, samples(foundAt(50, n, 1)), api.ErrNone)
		numberErrors(t, n, s, samples(foundAt(50, n, 1)), 0, ints(1), api.ErrNone)
	}
}

// TestNumberErrors is the error of the number of a sample: one that is no index, and that of a sample that is not Found; before those of Ask, and before ErrDown.
func TestNumberErrors(t *testing.T) {
	s, l := sampleS(), samples(sampleF(), sampleN(), sampleG())
	for _, i := range append(far(), -1, 3, 8) {
		numberErrors(t, i, s, l, i, ints(12, 24), api.ErrNone)
		numberErrors(t, i, s, l, i, ints(101), api.ErrNone)
		numberErrors(t, i, s, nil, i, nil, api.ErrNone)
	}
	numberErrors(t, "none", s, nil, 0, ints(12), api.ErrNone)
	numberErrors(t, "not Found", s, l, 1, ints(12, 24), api.ErrArg)
	numberErrors(t, "not Found", s, l, 1, nil, api.ErrArg)
	numberErrors(t, "not Found", s, l, 1, ints(-1), api.ErrArg)
	both := samples(sampleF(), cleanAt(22, 0, 0)) // with which no truth agrees
	numberErrors(t, "no index", s, both, 2, ints(12), api.ErrNone)
	numberErrors(t, "not Found", s, both, 1, ints(12), api.ErrArg)
	numberErrors(t, "no truth", s, both, 0, ints(12), api.ErrDown)
	errorsDown(t, "no truth", s, both)
}

// errorsDown checks that no truth agrees, as all functions say.
func errorsDown(t *testing.T, what any, s api.WtShore, l []api.WtSample) {
	t.Helper()
	agreeIs(t, what, s, l, false, api.OK)
	sourcesAre(t, what, s, l, nil, api.ErrDown)
	mustIs(t, what, s, l, nil, api.ErrDown)
	fewestIs(t, what, s, l, nil, api.ErrDown)
	for i, x := range l {
		e := api.ErrDown
		if !x.Found {
			e = api.ErrArg
		}
		canIs(t, what, s, l, i, nil, e)
		if len(l) < 8 {
			askIs(t, what, s, l, i, ints(0, 50), asked{}, e)
		}
	}
}

// TestAskErrors is the errors of Ask in their order.
func TestAskErrors(t *testing.T) {
	full := make([]api.WtSample, 8)
	for i := range full {
		full[i] = sampleF()
	}
	never := samples(sampleF(), cleanAt(22, 0, 0))
	for i, c := range []struct {
		l      []api.WtSample
		sample int
		places []int
		e      api.Errno
	}{
		{full, 8, nil, api.ErrNone},
		{append(full[:7:7], sampleN()), 7, nil, api.ErrArg},
		{full, 0, ints(12), api.ErrLong},
		{full, 7, ints(101), api.ErrLong},
		{full, 7, nil, api.ErrLong},
		{append(full[:7:7], cleanAt(22, 0, 0)), 0, ints(12), api.ErrLong},
		{full[:1], 0, nil, api.ErrLong},
		{full[:1], 0, ints(), api.ErrLong},
		{full[:1], 0, ints(1, 2, 3, 4, 5), api.ErrLong},
		{full[:1], 0, ints(-1, -1, -1, -1, -1), api.ErrLong},
		{full[:1], 0, make([]int, 100000), api.ErrLong},
		{never, 0, nil, api.ErrLong},
		{never, 0, ints(1, 2, 3, 4, 5), api.ErrLong},
		{full[:1], 0, ints(-1), api.ErrRange},
		{full[:1], 0, ints(101), api.ErrRange},
		{full[:1], 0, ints(0, 100, 50, 101), api.ErrRange},
		{never, 0, ints(0, -1), api.ErrRange},
		{never, 0, ints(0, 100), api.ErrDown},
	} {
		askIs(t, i, sampleS(), c.l, c.sample, c.places, asked{}, c.e)
	}
	for _, n := range far() {
		askIs(t, n, sampleS(), full[:1], 0, ints(0, n), asked{}, api.ErrRange)
	}
	askIs(t, "seven samples", sampleS(), full[:7], 6, ints(12, 24), asked{1, 0, 0, 1}, api.OK)
	askIs(t, "one place", sampleS(), full[:1], 0, ints(24), asked{0, 0, 0, 1}, api.OK)
	askIs(t, "four places", sampleS(), full[:1], 0, ints(0, 100, 100, 24), asked{3, 0, 0, 1}, api.OK)
}
