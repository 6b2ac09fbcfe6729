package stand_test

import (
	"strings"
	"testing"

	"orlop/api"
	"orlop/stand"
)

// checks checks that Check returns a part, an index and an error, and the other functions the same error, before all others.
func checks(t *testing.T, what any, h api.StHull, part, at int, e api.Errno) {
	t.Helper()
	gotPart, gotAt, got := stand.Check(h)
	if gotPart != part || gotAt != at || got != e {
		t.Errorf("%v: Check = %d, %d, %d; want %d, %d, %d", what, gotPart, gotAt, got, part, at, e)
	}
	if e == api.OK {
		if _, e := stand.Least(h, 0); e != api.OK {
			t.Errorf("%v: Least has the error %d", what, e)
		}
		return
	}
	for _, truth := range []api.StTruth{{}, sampleT(), truthOf(ints(1), nil), truthOf(ints(least), ints(greatest))} {
		for _, water := range ints(0, 1000, 1001, -1, greatest) {
			balanceIs(t, what, h, truth, water, bal(0, 0, 0), e)
			forcesAre(t, what, h, truth, water, nil, e)
			bearsIs(t, what, h, truth, water, nil, false, e)
			bearsIs(t, what, h, truth, water, make([]api.StForce, 11), false, e)
			leastIs(t, what, h, water, bal(0, 0, 0), e)
			showIs(t, what, h, water, api.StTruth{}, 0, e)
		}
	}
	for _, tide := range []api.Span{{}, all(), span(1, 0), span(-1, 0), span(least, greatest)} {
		whyIs(t, what, h, tide, 0, 0, e)
		for _, i := range ints(0, 2, 3, 10, -1) {
			ballastIs(t, what, h, i, tide, 0, e)
		}
	}
	tideIs(t, what, h, 0, e)
}

// manyParts is a hull of n parts; from the 27th on their names come again.
func manyParts(n int) api.StHull {
	h := hullOf(0, 1)
	for i := range n {
		h.Parts = append(h.Parts, known(string(rune('a'+i%26)), 0, 1, 0, 0))
	}
	return h
}

// TestCheckHull is P5.1: how many parts there are, and the ground.
func TestCheckHull(t *testing.T) {
	for _, c := range []struct {
		n int
		e api.Errno
	}{{0, api.ErrLong}, {1, api.OK}, {2, api.OK}, {9, api.OK}, {10, api.OK}, {11, api.ErrLong}, {12, api.ErrLong}, {100000, api.ErrLong}} {
		part := 1
		if c.e == api.OK {
			part = 0
		}
		checks(t, c.n, manyParts(c.n), part, 0, c.e)
	}
	for i, c := range []struct {
		aft, fore int
		e         api.Errno
	}{
		{0, 1, api.OK},
		{0, 5000, api.OK},
		{4999, 5000, api.OK},
		{0, 0, api.ErrArg},
		{5000, 5000, api.ErrArg},
		{1, 0, api.ErrArg},
		{5000, 0, api.ErrArg},
		{801, 800, api.ErrArg},
		{-1, 800, api.ErrRange},
		{200, 5001, api.ErrRange},
		{5001, 800, api.ErrRange}, // before it is not below
		{200, -1, api.ErrRange},
		{-1, -1, api.ErrRange},
		{5001, 5001, api.ErrRange},
		{-2, -1, api.ErrRange},
		{5001, 5002, api.ErrRange},
	} {
		h := sampleH()
		h.Aft, h.Fore = c.aft, c.fore
		part := 1
		if c.e == api.OK {
			part = 0
		}
		checks(t, i, h, part, 0, c.e)
	}
	for _, n := range far() {
		h := sampleH()
		h.Aft = n
		checks(t, n, h, 1, 0, api.ErrRange)
		h.Fore = n
		checks(t, n, h, 1, 0, api.ErrRange)
		h.Aft = 200
		checks(t, n, h, 1, 0, api.ErrRange)
	}
	checks(t, "no hull", api.StHull{}, 1, 0, api.ErrLong)
	checks(t, "an empty list", api.StHull{Parts: []api.StPart{}, Fore: 1}, 1, 0, api.ErrLong)
	if api.MaxStParts != 10 || api.MaxStForces != 10 || api.MaxStWater != 1000 || api.MaxStLift != 5000 || api.MaxStAt != 5000 || api.MaxStWeight != 1000000 {
		t.Error("the limits are not those of the chapter")
	}
}

// TestCheckNames is P5.1: the names of parts.
func TestCheckNames(t *testing.T) {
	for i, c := range []struct {
		names []string
		at    int
		e     api.Errno
	}{
		{[]string{"a"}, 0, api.OK},
		{[]string{""}, 0, api.ErrForm},
		{[]string{"A"}, 0, api.ErrForm},
		{[]string{"1a"}, 0, api.ErrForm},
		{[]string{"a1"}, 0, api.OK},
		{[]string{"a b"}, 0, api.ErrForm},
		{[]string{"ä"}, 0, api.ErrForm},
		{[]string{"a\xff"}, 0, api.ErrForm},
		{[]string{strings.Repeat("z", 16)}, 0, api.OK},
		{[]string{strings.Repeat("z", 17)}, 0, api.ErrForm},
		{[]string{strings.Repeat("z", 1<<20)}, 0, api.ErrForm},
		{[]string{"a", "a"}, 1, api.ErrTwice},
		{[]string{"a", "b", "a"}, 2, api.ErrTwice},
		{[]string{"a", "b", "b", "a"}, 2, api.ErrTwice},
		{[]string{"a", "b", "c", "d", "e", "f", "g", "h", "i", "a"}, 9, api.ErrTwice},
		{[]string{"a", "b", "c", "d", "e", "f", "g", "h", "i", "i"}, 9, api.ErrTwice},
		{[]string{"a", "b", "c", "d", "e", "f", "g", "h", "i", "j"}, 0, api.OK},
		{[]string{"", ""}, 0, api.ErrForm},
		{[]string{"a", "", ""}, 1, api.ErrForm},
		{[]string{"a", "a", ""}, 1, api.ErrTwice},
		{[]string{"a", "", "a"}, 1, api.ErrForm},
	} {
		h := manyParts(len(c.names))
		for j, name := range c.names {
			h.Parts[j].Name = name
		}
		part := 2
		if c.e == api.OK {
			part = 0
		}
		checks(t, i, h, part, c.at, c.e)
	}
}

// TestCheckNumbers is P5.1: the numbers of parts.
func TestCheckNumbers(t *testing.T) {
	for i, c := range []struct {
		part api.StPart
		e    api.Errno
	}{
		{part("x", 0, 0, 0, 0, 0, 0), api.OK},
		{part("x", 5000, 1000000, 1000000, 1000, 5000, 5000), api.OK},
		{part("x", 5000, 0, 1000000, 1000, 0, 5000), api.OK},
		{part("x", -1, 0, 0, 0, 0, 0), api.ErrRange},
		{part("x", 5001, 0, 0, 0, 0, 0), api.ErrRange},
		{part("x", 0, -1, 0, 0, 0, 0), api.ErrRange},
		{part("x", 0, 0, -1, 0, 0, 0), api.ErrRange},
		{part("x", 0, 0, 1000001, 0, 0, 0), api.ErrRange},
		{part("x", 0, 1000001, 0, 0, 0, 0), api.ErrRange}, // before Lo is above Hi
		{part("x", 0, 1000001, 1000001, 0, 0, 0), api.ErrRange},
		{part("x", 0, 0, 0, -1, 0, 0), api.ErrRange},
		{part("x", 0, 0, 0, 1001, 0, 0), api.ErrRange},
		{part("x", 0, 0, 0, 0, -1, 0), api.ErrRange},
		{part("x", 0, 0, 0, 0, 0, -1), api.ErrRange},
		{part("x", 0, 0, 0, 0, 0, 5001), api.ErrRange},
		{part("x", 0, 0, 0, 0, 5001, 0), api.ErrRange},
		{part("x", 0, 0, 0, 0, 5001, 5001), api.ErrRange},
		{part("x", 0, 1, 0, 0, 0, 0), api.ErrArg},
		{part("x", 0, 1000000, 999999, 0, 0, 0), api.ErrArg},
		{part("x", 0, 0, 0, 0, 1, 0), api.ErrArg},
		{part("x", 0, 0, 0, 0, 5000, 0), api.ErrArg},
		{part("x", 0, 1, 0, 0, 0, 5001), api.ErrRange}, // one span after the other would be wrong
		{part("x", 0, 1, 0, 1001, 0, 0), api.ErrRange},
		{part("x", -1, 1, 0, 0, 1, 0), api.ErrRange},
		{part("bow", -1, 0, 0, 0, 0, 0), api.ErrTwice},
		{part("bow", 0, 1, 0, 0, 0, 0), api.ErrTwice},
		{part("Bow", 0, 0, 0, 0, -1, 0), api.ErrForm},
	} {
		h := sampleH()
		h.Parts = append(h.Parts, c.part)
		if c.e == api.OK {
			checks(t, i, h, 0, 0, api.OK)
			continue
		}
		checks(t, i, h, 2, 3, c.e)
	}
	for _, n := range far() {
		for i, set := range []func(x *api.StPart){
			func(x *api.StPart) { x.At = n },
			func(x *api.StPart) { x.Keel = n },
			func(x *api.StPart) { x.Weight.Lo = n },
			func(x *api.StPart) { x.Weight.Hi = n },
			func(x *api.StPart) { x.Weight = span(n, n) },
			func(x *api.StPart) { x.Lift.Lo = n },
			func(x *api.StPart) { x.Lift.Hi = n },
			func(x *api.StPart) { x.Lift = span(n, n) },
		} {
			h := sampleH()
			set(&h.Parts[1])
			checks(t, ints(n, i), h, 2, 1, api.ErrRange)
		}
	}
}

// TestCheckOrder is P5.1 and R1: all of one part comes before the next one, and the first part with an error decides.
func TestCheckOrder(t *testing.T) {
	h := sampleH()
	h.Parts[2].Weight = span(2, 1)
	checks(t, "the last part", h, 2, 2, api.ErrArg)
	h.Parts[1].Keel = 1001
	checks(t, "the part before it", h, 2, 1, api.ErrRange)
	h.Parts[1].Name = "bow"
	checks(t, "a name before a number", h, 2, 1, api.ErrTwice)
	h.Parts[0].Lift = span(1, 0)
	checks(t, "the first part", h, 2, 0, api.ErrArg)
	h.Parts[0].Name = "?"
	checks(t, "no name", h, 2, 0, api.ErrForm)
	h.Aft, h.Fore = 800, 200
	checks(t, "the ground", h, 1, 0, api.ErrArg)
	h.Fore = 5001
	checks(t, "the ends of the ground", h, 1, 0, api.ErrRange)
	h.Parts = make([]api.StPart, 11)
	checks(t, "11 parts", h, 1, 0, api.ErrLong)
	h.Parts = nil
	checks(t, "no parts", h, 1, 0, api.ErrLong)
}

// badTruths is truths of H that have errors.
func badTruths() map[api.Errno][]api.StTruth {
	w, l := sampleT().Weights, sampleT().Lifts
	bad := map[api.Errno][]api.StTruth{
		api.ErrLong: {
			{},
			truthOf(w, nil),
			truthOf(nil, l),
			truthOf(w[:2], l),
			truthOf(w, l[:2]),
			truthOf(ints(1000, 500, 2000, 0), l),
			truthOf(w, ints(12, 5, 20, 0)),
			truthOf(w[:2], l[:2]),
			truthOf(ints(0, 0, 0, 0), ints(0, 0, 0, 0)),
			truthOf(ints(greatest, 500), l), // before its numbers
			truthOf(w, ints(least)),
			truthOf(ints(greatest, 500, 2000), l[:2]),
			truthOf(make([]int, 100000), make([]int, 100000)),
		},
		api.ErrRange: {
			truthOf(ints(999, 500, 2000), l),
			truthOf(ints(1201, 500, 2000), l),
			truthOf(ints(1000, 499, 2000), l),
			truthOf(ints(1000, 601, 2000), l),
			truthOf(ints(1000, 500, 1999), l),
			truthOf(ints(1000, 500, 2001), l),
			truthOf(w, ints(9, 5, 20)),
			truthOf(w, ints(13, 5, 20)),
			truthOf(w, ints(12, 3, 20)),
			truthOf(w, ints(12, 6, 20)),
			truthOf(w, ints(12, 5, 19)),
			truthOf(w, ints(12, 5, 21)),
			truthOf(l, w),
			truthOf(ints(0, 0, 0), ints(0, 0, 0)),
		},
	}
	for _, n := range far() {
		bad[api.ErrRange] = append(bad[api.ErrRange], truthOf(ints(n, 500, 2000), l), truthOf(ints(1000, 500, n), l), truthOf(w, ints(n, 5, 20)), truthOf(w, ints(12, 5, n)))
	}
	return bad
}

// TestTruthErrors: the error of the truth comes before that of the height of water, and this one before those of the forces.
func TestTruthErrors(t *testing.T) {
	tooMany := make([]api.StForce, 11)
	h := sampleH()
	for e, l := range badTruths() {
		for i, truth := range l {
			for _, water := range ints(0, 134, 1000, -1, 1001, least, greatest) {
				balanceIs(t, i, h, truth, water, bal(0, 0, 0), e)
				forcesAre(t, i, h, truth, water, nil, e)
				bearsIs(t, i, h, truth, water, nil, false, e)
				bearsIs(t, i, h, truth, water, tooMany, false, e)
			}
		}
	}
	for _, truth := range []api.StTruth{sampleT(), truthOf(ints(1200, 600, 2000), ints(10, 4, 20)), truthOf(ints(1100, 550, 2000), ints(11, 5, 20))} {
		if _, e := stand.Balance(h, truth, 0); e != api.OK {
			t.Errorf("Balance of %v has the error %d", truth, e)
		}
		for _, water := range append(far(), 1001, 1002) {
			balanceIs(t, water, h, truth, water, bal(0, 0, 0), api.ErrRange)
			forcesAre(t, water, h, truth, water, nil, api.ErrRange)
			bearsIs(t, water, h, truth, water, nil, false, api.ErrRange)
			bearsIs(t, water, h, truth, water, tooMany, false, api.ErrRange)
		}
		bearsIs(t, "forces", h, truth, 0, tooMany, false, api.ErrLong)
		bearsIs(t, "forces", h, truth, 1000, tooMany, false, api.ErrLong)
	}
}

// TestWaterErrors: heights of water, and tides.
func TestWaterErrors(t *testing.T) {
	h := sampleH()
	for _, water := range append(far(), 1001, 1002) {
		leastIs(t, water, h, water, bal(0, 0, 0), api.ErrRange)
		showIs(t, water, h, water, api.StTruth{}, 0, api.ErrRange)
		for _, tide := range []api.Span{span(water, water), span(0, water), span(water, 1000), span(1000, water), span(water, 0), span(water, -water)} {
			whyIs(t, water, h, tide, 0, 0, api.ErrRange)
			ballastIs(t, water, h, 1, tide, 0, api.ErrRange)
		}
	}
	for _, tide := range []api.Span{span(1, 0), span(1000, 0), span(1000, 999), span(134, 133)} {
		whyIs(t, tide, h, tide, 0, 0, api.ErrArg)
		ballastIs(t, tide, h, 1, tide, 0, api.ErrArg)
	}
}

// TestBallastErrors: the errors of the part come before those of the tide.
func TestBallastErrors(t *testing.T) {
	h := hullOf(100, 200, known("a", 99, 1, 0, 0), known("b", 100, 1, 0, 0), known("c", 200, 1, 0, 0), known("d", 201, 1, 0, 0), known("e", 0, 1, 0, 0), known("f", 5000, 1, 0, 0))
	for _, tide := range []api.Span{span(0, 0), all(), span(1, 0), span(-1, 0), span(1000, 1001), span(greatest, least)} {
		for _, i := range append(far(), 6, 7, 9, 10) {
			ballastIs(t, "no part", h, i, tide, 0, api.ErrNone)
		}
		for _, i := range ints(0, 3, 4, 5) {
			ballastIs(t, "not on the ground", h, i, tide, 0, api.ErrArg)
		}
	}
	for _, i := range ints(1, 2) {
		ballastIs(t, "both errors of the tide", h, i, span(1, -1), 0, api.ErrRange)
		ballastIs(t, "the tide", h, i, span(1, 0), 0, api.ErrArg)
	}
	// It turns over Fore: 4400 too little, which a part at Fore never makes up for.
	ballastIs(t, "at Aft", h, 1, all(), 44, api.OK)
	ballastIs(t, "at Fore", h, 2, all(), 0, api.ErrDown)
}
