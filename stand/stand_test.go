package stand_test

import (
	"testing"

	"orlop/api"
	"orlop/stand"
)

// TestExamples is the examples of the chapter.
func TestExamples(t *testing.T) {
	h, truth := sampleH(), sampleT()
	balanceIs(t, "H", h, truth, 0, bal(3500, 1400000, 700000), api.OK)
	balanceIs(t, "H", h, truth, 134, bal(1642, 990800, -5600), api.OK)
	leastIs(t, "H", h, 150, bal(1050, 730000, -140000), api.OK)
	whyIs(t, "H", h, span(0, 150), api.StFore, 134, api.OK)
	whyIs(t, "H", h, span(0, 133), api.StStands, 0, api.OK)
	showIs(t, "H", h, 134, truth, api.StFore, api.OK)
	forcesAre(t, "H", h, truth, 0, forces(force(200, 700000), force(800, 1400000)), api.OK)
	bearsIs(t, "H", h, truth, 0, forces(force(600, 2100000)), true, api.OK)
	bearsIs(t, "H", h, truth, 0, forces(force(300, 525000), force(700, 1575000)), true, api.OK)
	tideIs(t, "H", h, 133, api.OK)
	ballastIs(t, "H", h, 1, span(0, 150), 350, api.OK)
	ballastIs(t, "H", h, 0, span(0, 150), 0, api.ErrArg)
}

// full is a hull of 10 parts whose numbers are all as great as they can be.
func full(at, aft, fore, keel int) api.StHull {
	h := manyParts(10)
	h.Aft, h.Fore = aft, fore
	for i := range h.Parts {
		x := &h.Parts[i]
		x.At, x.Keel, x.Weight, x.Lift = at, keel, span(1000000, 1000000), span(5000, 5000)
	}
	return h
}

// TestBalance is P5.2: the balance of one truth, which is the least one if all is known.
func TestBalance(t *testing.T) {
	for i, c := range []struct {
		h     api.StHull
		water int
		want  api.StBalance
	}{
		{hullOf(100, 300, known("a", 250, 1000, 0, 3)), 0, bal(1000, 150000, 50000)},
		{hullOf(100, 300, known("a", 250, 1000, 0, 3)), 1, bal(997, 149550, 49850)},
		{hullOf(100, 300, known("a", 250, 1000, 0, 3)), 1000, bal(-2000, -300000, -100000)},
		{hullOf(100, 300, known("a", 250, 1000, 40, 3)), 39, bal(1000, 150000, 50000)},
		{hullOf(100, 300, known("a", 250, 1000, 40, 3)), 40, bal(1000, 150000, 50000)}, // just at the keel
		{hullOf(100, 300, known("a", 250, 1000, 40, 3)), 41, bal(997, 149550, 49850)},
		{hullOf(100, 300, known("a", 250, 1000, 1000, 5000)), 1000, bal(1000, 150000, 50000)},
		{hullOf(100, 300, known("a", 250, 1000, 999, 5000)), 1000, bal(-4000, -600000, -200000)},
		{hullOf(100, 300, known("a", 250, 1000, 0, 0)), 1000, bal(1000, 150000, 50000)},
		{hullOf(100, 300, known("a", 250, 0, 0, 0)), 1000, bal(0, 0, 0)},
		{hullOf(100, 300, known("a", 250, 0, 0, 7)), 10, bal(-70, -10500, -3500)},
		{hullOf(100, 300, known("a", 100, 5, 0, 0)), 0, bal(5, 0, 1000)},
		{hullOf(100, 300, known("a", 300, 5, 0, 0)), 0, bal(5, 1000, 0)},
		{hullOf(100, 300, known("a", 99, 5, 0, 0)), 0, bal(5, -5, 1005)},
		{hullOf(100, 300, known("a", 301, 5, 0, 0)), 0, bal(5, 1005, -5)},
		{hullOf(100, 300, known("a", 0, 5, 0, 0)), 0, bal(5, -500, 1500)},
		{hullOf(100, 300, known("a", 5000, 5, 0, 0)), 0, bal(5, 24500, -23500)},
		{hullOf(100, 300, known("a", 0, 5, 0, 1), known("b", 5000, 7, 4, 2)), 10, bal(-10, -24000, 22000)},
		{full(5000, 0, 1, 1000), 1000, bal(10000000, 50000000000, -49990000000)},
		{full(5000, 0, 1, 0), 1000, bal(-40000000, -200000000000, 199960000000)},
		{full(0, 4999, 5000, 0), 0, bal(10000000, -49990000000, 50000000000)},
		{full(0, 4999, 5000, 1), 1000, bal(-39950000, 199710050000, -199750000000)},
		{dip(), 34, bal(2998, -100, 299900)},
		{dip(), 51, bal(2927, -650, 293350)},
	} {
		var truth api.StTruth
		for _, x := range c.h.Parts {
			truth.Weights = append(truth.Weights, x.Weight.Hi)
			truth.Lifts = append(truth.Lifts, x.Lift.Lo)
		}
		balanceIs(t, i, c.h, truth, c.water, c.want, api.OK)
		leastIs(t, i, c.h, c.water, c.want, api.OK)
	}
	h := sampleH()
	for i, c := range []struct {
		weights, lifts []int
		water          int
		want           api.StBalance
	}{
		{ints(1000, 500, 2000), ints(10, 4, 20), 0, bal(3500, 1400000, 700000)},
		{ints(1200, 600, 2000), ints(10, 4, 20), 0, bal(3800, 1400000, 880000)},
		{ints(1100, 550, 2000), ints(11, 5, 20), 101, bal(3064, 1441100, 397300)},
		{ints(1000, 600, 2000), ints(12, 4, 20), 150, bal(1200, 800000, -80000)},
	} {
		balanceIs(t, i, h, truthOf(c.weights, c.lifts), c.water, c.want, api.OK)
	}
}

// wide is a hull with parts behind its ground, at both ends, on it, and ahead of it; nothing of them is known exactly.
func wide() api.StHull {
	return hullOf(100, 200,
		part("a", 0, 10, 20, 5, 1, 2),
		part("b", 100, 100, 200, 5, 3, 4),
		part("c", 150, 1000, 2000, 10, 5, 6),
		part("d", 200, 100, 200, 0, 7, 8),
		part("e", 300, 10, 20, 0, 9, 11))
}

// TestLeast is P5.2: each number is the least of all truths, each for itself.
func TestLeast(t *testing.T) {
	for i, c := range []struct {
		h     api.StHull
		water int
		want  api.StBalance
	}{
		// a presses with 10 to 20, b and d with 100 to 200, c with 1000 to 2000, e with 10 to 20.
		{wide(), 0, bal(1220, -2000+50000+10000+2000, 2000+10000+50000-2000)},
		// At 15 a presses with -10 to 10, b with 60 to 170, c with 970 to 1975, d with -20 to 95, e with -155 to -115.
		{wide(), 15, bal(845, -1000+48500-2000-31000, -2000+6000+48500+11500)},
		{hullOf(100, 200, part("a", 0, 0, 7, 0, 0, 3)), 2, bal(-6, -700, -1200)},
		{hullOf(100, 200, part("a", 300, 0, 7, 0, 0, 3)), 2, bal(-6, -1200, -700)},
		{hullOf(100, 200, part("a", 100, 0, 7, 0, 0, 3)), 2, bal(-6, 0, -600)},
		{hullOf(100, 200, part("a", 200, 0, 7, 0, 0, 3)), 2, bal(-6, -600, 0)},
		{hullOf(100, 200, part("a", 0, 3, 1000000, 1000, 0, 5000)), 1000, bal(3, -100000000, 600)},
		{hullOf(100, 200, part("a", 5000, 3, 1000000, 1000, 0, 5000)), 1000, bal(3, 14700, -4800000000)},
	} {
		leastIs(t, i, c.h, c.water, c.want, api.OK)
	}
}

// TestWhy is P5.3: reasons in their order, each just reached and just not.
func TestWhy(t *testing.T) {
	float := hullOf(100, 200, known("a", 150, 10, 0, 1))
	onAft := hullOf(100, 200, known("a", 99, 2, 0, 0), known("b", 101, 3, 10, 1))
	onFore := hullOf(100, 200, known("a", 201, 2, 0, 0), known("b", 199, 3, 10, 1))
	// At 50, the keel of a, Aft is -100; at 49 it is 50, and at 51 it is 1750.
	once := hullOf(100, 200, known("a", 0, 1000, 50, 20), known("b", 150, 2148, 0, 3))
	both := hullOf(100, 200, part("a", 0, 0, 9, 0, 0, 0), part("b", 150, 1, 1, 5, 0, 1), part("c", 300, 0, 9, 0, 0, 0))
	for i, c := range []struct {
		h          api.StHull
		tide       api.Span
		why, water int
	}{
		{float, span(0, 9), api.StStands, 0}, // at 9 Down is 1
		{float, span(9, 9), api.StStands, 0},
		{float, span(0, 10), api.StFloats, 10},
		{float, span(10, 10), api.StFloats, 10},
		{float, span(10, 1000), api.StFloats, 10},
		{float, span(1000, 1000), api.StFloats, 1000},
		{onAft, span(0, 11), api.StStands, 0}, // at 11 Aft is 0
		{onAft, span(11, 11), api.StStands, 0},
		{onAft, span(0, 12), api.StAft, 12},
		{onAft, span(12, 12), api.StAft, 12}, // at 12 it is -1
		{onAft, span(0, 1000), api.StAft, 12},
		{onAft, span(14, 20), api.StAft, 14}, // at 14 Down is 1
		{onAft, span(15, 20), api.StFloats, 15},
		{onFore, span(0, 11), api.StStands, 0},
		{onFore, span(0, 12), api.StFore, 12},
		{onFore, span(12, 12), api.StFore, 12},
		{onFore, span(0, 1000), api.StFore, 12},
		{onFore, span(15, 20), api.StFloats, 15},
		{both, span(0, 0), api.StAft, 0}, // in other truths it turns over Fore
		{both, span(6, 6), api.StFloats, 6},
		{dip(), span(0, 33), api.StStands, 0},
		{dip(), span(52, 100), api.StStands, 0},
		{dip(), span(33, 33), api.StStands, 0},
		{dip(), span(52, 52), api.StStands, 0},
		{dip(), span(0, 100), api.StAft, 34}, // it stands at both ends
		{dip(), span(33, 52), api.StAft, 34},
		{dip(), span(34, 34), api.StAft, 34},
		{dip(), span(50, 50), api.StAft, 50},
		{dip(), span(40, 45), api.StAft, 40},
		{dip(), span(51, 1000), api.StAft, 51},
		{once, span(0, 49), api.StStands, 0},
		{once, span(51, 100), api.StStands, 0},
		{once, span(49, 51), api.StAft, 50},
		{once, span(49, 100), api.StAft, 50},
		{once, span(0, 51), api.StAft, 50},
		{once, span(50, 51), api.StAft, 50},
		{turned(once), span(49, 51), api.StFore, 50},
		{turned(dip()), span(0, 33), api.StStands, 0},
		{turned(dip()), span(0, 100), api.StFore, 34},
		{turned(dip()), span(51, 100), api.StFore, 51},
		{turned(dip()), span(52, 100), api.StStands, 0},
		{wide(), span(0, 0), api.StStands, 0},
		{wide(), span(0, 19), api.StStands, 0},
		{wide(), span(0, 1000), api.StAft, 20}, // at 19 Aft is 1700, at 20 -1500
		{hullOf(0, 1, known("a", 0, 1, 0, 0)), all(), api.StStands, 0},
		{hullOf(0, 1, known("a", 1, 1, 0, 0)), all(), api.StStands, 0},
		{hullOf(0, 1, known("a", 2, 1, 0, 0)), all(), api.StFore, 0},
		{hullOf(1, 2, known("a", 0, 1, 0, 0)), all(), api.StAft, 0},
		{hullOf(0, 1, known("a", 0, 0, 0, 0)), all(), api.StFloats, 0},
		{hullOf(0, 1, known("a", 0, 0, 0, 0)), span(1000, 1000), api.StFloats, 1000},
		{hullOf(0, 1, known("a", 0, 4999, 999, 5000)), all(), api.StFloats, 1000},
		{hullOf(0, 1, known("a", 0, 5001, 999, 5000)), all(), api.StStands, 0},
		{hullOf(0, 1, known("a", 0, 1, 1000, 5000)), all(), api.StStands, 0},
		{hullOf(0, 1, known("a", 0, 5000, 0, 5000)), all(), api.StFloats, 1},
		{hullOf(0, 5000, full(5000, 0, 5000, 1).Parts...), all(), api.StFloats, 201},
	} {
		whyIs(t, i, c.h, c.tide, c.why, c.water, api.OK)
	}
	if api.StStands != 0 || api.StFloats != 1 || api.StAft != 2 || api.StFore != 3 {
		t.Error("the reasons are not those of the chapter")
	}
}

// TestShow is P5.3: the truth of each reason, with parts behind the ground, at its ends, on it and ahead of it.
func TestShow(t *testing.T) {
	light := truthOf(ints(10, 100, 1000, 100, 10), ints(2, 4, 6, 8, 11))
	aft := truthOf(ints(20, 100, 1000, 100, 10), ints(1, 4, 6, 8, 11))
	fore := truthOf(ints(10, 100, 1000, 100, 20), ints(2, 4, 6, 8, 9))
	heavy := wide()
	heavy.Parts[4].Weight.Hi = 1000000
	for i, c := range []struct {
		h     api.StHull
		water int
		want  api.StTruth
		why   int
	}{
		{wide(), 0, light, api.StStands},
		{wide(), 19, light, api.StStands},
		{wide(), 20, aft, api.StAft},
		{wide(), 1000, light, api.StFloats},
		{heavy, 0, truthOf(ints(10, 100, 1000, 100, 1000000), fore.Lifts), api.StFore},
		{heavy, 19, truthOf(ints(10, 100, 1000, 100, 1000000), fore.Lifts), api.StFore},
		{heavy, 20, aft, api.StAft},
		{dip(), 0, truthOf(ints(1000, 2100), ints(20, 3)), api.StStands},
		{dip(), 34, truthOf(ints(1000, 2100), ints(20, 3)), api.StAft},
		{hullOf(0, 1, part("a", 0, 0, 0, 0, 0, 0)), 0, truthOf(ints(0), ints(0)), api.StFloats},
		{hullOf(0, 1, part("a", 1, 0, 1000000, 0, 0, 5000)), 0, truthOf(ints(0), ints(5000)), api.StFloats},
		{hullOf(0, 1, part("a", 2, 1, 1000000, 1000, 0, 5000)), 1000, truthOf(ints(1000000), ints(0)), api.StFore},
		{hullOf(1, 2, part("a", 0, 1, 1000000, 1000, 0, 5000)), 1000, truthOf(ints(1000000), ints(0)), api.StAft},
		{hullOf(1, 2, part("a", 1, 1, 1000000, 1000, 0, 5000)), 1000, truthOf(ints(1), ints(5000)), api.StStands},
	} {
		showIs(t, i, c.h, c.water, c.want, c.why, api.OK)
	}
}

// TestForces is P5.4: the two forces, and hulls that do not stand.
func TestForces(t *testing.T) {
	for i, c := range []struct {
		h     api.StHull
		water int
		want  []api.StForce
		e     api.Errno
	}{
		{hullOf(100, 200, known("a", 150, 10, 0, 1)), 9, forces(force(100, 50), force(200, 50)), api.OK},
		{hullOf(100, 200, known("a", 150, 10, 0, 1)), 10, nil, api.ErrDown},
		{hullOf(100, 200, known("a", 100, 10, 0, 1)), 0, forces(force(100, 1000), force(200, 0)), api.OK},
		{hullOf(100, 200, known("a", 200, 10, 0, 1)), 0, forces(force(100, 0), force(200, 1000)), api.OK},
		{hullOf(100, 200, known("a", 99, 10, 0, 1)), 0, nil, api.ErrDown},
		{hullOf(100, 200, known("a", 201, 10, 0, 1)), 0, nil, api.ErrDown},
		{hullOf(0, 5000, full(5000, 0, 5000, 0).Parts...), 0, forces(force(0, 0), force(5000, 50000000000)), api.OK},
		{dip(), 33, forces(force(100, 300050), force(200, 50)), api.OK},
		{dip(), 34, nil, api.ErrDown},
		{turned(dip()), 33, forces(force(4800, 50), force(4900, 300050)), api.OK},
		{turned(dip()), 34, nil, api.ErrDown},
	} {
		var truth api.StTruth
		for _, x := range c.h.Parts {
			truth.Weights = append(truth.Weights, x.Weight.Lo)
			truth.Lifts = append(truth.Lifts, x.Lift.Lo)
		}
		forcesAre(t, i, c.h, truth, c.water, c.want, c.e)
		if c.e == api.OK {
			bearsIs(t, i, c.h, truth, c.water, c.want, true, api.OK)
		}
	}
}

// TestBears is P5.4: forces that bear H at 0 have the sum 2100000, and together they are at 600.
func TestBears(t *testing.T) {
	half := force(600, 1050000)
	many := func(n int) (l []api.StForce) {
		for range n {
			l = append(l, force(600, 210000))
		}
		return l
	}
	for i, c := range []struct {
		l    []api.StForce
		want bool
	}{
		{nil, false},
		{forces(), false},
		{forces(force(200, 700000), force(800, 1400000)), true},
		{forces(force(800, 1400000), force(200, 700000)), true},
		{forces(half, half), true},
		{forces(half, force(200, 0), half, force(800, 0)), true},
		{many(10), true},
		{many(9), false},
		{forces(force(200, 350000), force(200, 350000), force(800, 700000), force(800, 700000)), true},
		{forces(half), false},
		{forces(force(600, 2099999)), false},
		{forces(force(600, 2100001)), false},
		{forces(force(599, 2100000)), false},
		{forces(force(601, 2100000)), false},
		{forces(force(500, 2520000)), false}, // it turns as much, but is not as much
		{forces(force(200, 699999), force(800, 1400000)), false},
		{forces(force(200, 700001), force(800, 1400000)), false},
		{forces(force(200, 700000), force(800, 1399999)), false},
		{forces(force(200, 1400000), force(800, 700000)), false},
		{forces(force(199, 1050000), force(1001, 1050000)), false}, // beyond both ends
		{forces(force(199, 1), force(600, 2099998), force(1001, 1)), false},
		{forces(force(199, 0), force(600, 2100000)), false},
		{forces(force(600, 2100000), force(801, 0)), false},
		{forces(force(600, 2100000), force(least, 0)), false},
		{forces(force(600, 2100000), force(greatest, 0)), false},
		{forces(force(500, -1), force(600, 2100002), force(700, -1)), false}, // below 0
		{forces(force(600, 2100001), force(600, -1)), false},
		{forces(force(600, -2100000)), false},
		{forces(force(600, 0)), false},
		// Sums that are the right ones but for 2 to the 64th.
		{forces(force(200, greatest), force(200, greatest), force(200, 700002), force(800, 1400000)), false},
		{forces(force(200, 1<<62), force(200, 1<<62), force(200, 1<<62), force(200, 1<<62), force(200, 700000), force(800, 1400000)), false},
		{forces(force(200, least), force(200, least), force(200, 700000), force(800, 1400000)), false},
		{forces(force(200, least), force(200, greatest), force(200, 700001), force(800, 1400000)), false},
	} {
		bearsIs(t, i, sampleH(), sampleT(), 0, c.l, c.want, api.OK)
	}
	bearsIs(t, "too many", sampleH(), sampleT(), 0, many(11), false, api.ErrLong)
	bearsIs(t, "too many", sampleH(), sampleT(), 0, append(many(10), force(600, 0)), false, api.ErrLong)
	bearsIs(t, "too many", sampleH(), sampleT(), 0, make([]api.StForce, 100000), false, api.ErrLong)
	bearsIs(t, "too many, and it floats", hullOf(0, 1, known("a", 0, 0, 0, 0)), truthOf(ints(0), ints(0)), 0, many(11), false, api.ErrLong)
	for _, n := range far() {
		bearsIs(t, n, sampleH(), sampleT(), 0, forces(force(n, 2100000)), false, api.OK)
		bearsIs(t, n, sampleH(), sampleT(), 0, forces(force(600, n)), false, api.OK)
		bearsIs(t, n, sampleH(), sampleT(), 0, forces(force(n, n), half, half), false, api.OK)
	}
}

// TestBearsNothing is P5.4: nothing bears a hull that floats, or that turns over an end.
func TestBearsNothing(t *testing.T) {
	floating, one := hullOf(0, 2, known("a", 1, 5, 0, 1)), truthOf(ints(5), ints(1))
	bearsIs(t, "Down 1", floating, one, 4, forces(force(1, 2)), true, api.OK)
	bearsIs(t, "Down 1", floating, one, 4, forces(force(0, 1), force(2, 1)), true, api.OK)
	for _, l := range [][]api.StForce{nil, forces(force(1, 0)), forces(force(0, 0), force(2, 0)), forces(force(1, 2)), forces(force(1, -2)), forces(force(0, -1), force(2, -1))} {
		bearsIs(t, "Down 0", floating, one, 5, l, false, api.OK)
		bearsIs(t, "Down -1", floating, one, 6, l, false, api.OK)
	}
	beyond, two := hullOf(2, 4, known("a", 1, 3, 0, 0)), truthOf(ints(3), ints(0))
	for _, l := range [][]api.StForce{nil, forces(force(1, 6)), forces(force(2, 9), force(4, -3)), forces(force(2, 6)), forces(force(0, 3), force(2, 3))} {
		bearsIs(t, "over Aft", beyond, two, 0, l, false, api.OK)
		for i := range l {
			l[i].At = 6 - l[i].At
		}
		bearsIs(t, "over Fore", hullOf(2, 4, known("a", 5, 3, 0, 0)), two, 0, l, false, api.OK)
	}
}

// TestTide is P5.5: hulls that stand at no height, up to some, and at all.
func TestTide(t *testing.T) {
	for i, c := range []struct {
		h    api.StHull
		want int
		e    api.Errno
	}{
		{hullOf(100, 200, known("a", 150, 0, 0, 0)), 0, api.ErrDown},
		{hullOf(100, 200, known("a", 99, 10, 0, 0)), 0, api.ErrDown},
		{hullOf(100, 200, known("a", 201, 10, 0, 0)), 0, api.ErrDown},
		{hullOf(100, 200, part("a", 150, 0, 10, 0, 0, 0)), 0, api.ErrDown},
		{hullOf(100, 200, known("a", 150, 1, 0, 1)), 0, api.OK},
		{hullOf(100, 200, known("a", 150, 2, 0, 1)), 1, api.OK},
		{hullOf(100, 200, known("a", 150, 10, 0, 1)), 9, api.OK},
		{hullOf(100, 200, known("a", 150, 1000, 0, 1)), 999, api.OK},
		{hullOf(100, 200, known("a", 150, 1001, 0, 1)), 1000, api.OK},
		{hullOf(100, 200, known("a", 150, 1, 999, 1)), 999, api.OK},
		{hullOf(100, 200, known("a", 150, 1, 1000, 5000)), 1000, api.OK},
		{hullOf(100, 200, part("a", 150, 10, 20, 0, 0, 2)), 4, api.OK},
		{hullOf(100, 200, known("a", 100, 1, 0, 0)), 1000, api.OK},
		{hullOf(100, 200, known("a", 200, 1, 0, 0)), 1000, api.OK},
		{dip(), 33, api.OK}, // it stands again from 52 on
		{turned(dip()), 33, api.OK},
		{wide(), 19, api.OK},
		{turned(wide()), 19, api.OK},
		// With the first centimetre of water it stands: without it, it does not.
		{hullOf(100, 200, known("a", 99, 2, 0, 1), known("b", 101, 1, 0, 0)), 0, api.ErrDown},
	} {
		tideIs(t, i, c.h, c.want, c.e)
	}
}

// TestBallast is P5.5: ballast of each amount, at each place of the ground.
func TestBallast(t *testing.T) {
	for i, c := range []struct {
		h    api.StHull
		part int
		tide api.Span
		want int
		e    api.Errno
	}{
		{hullOf(100, 200, known("a", 150, 1, 0, 1)), 0, span(0, 0), 0, api.OK},
		{hullOf(100, 200, known("a", 150, 1, 0, 1)), 0, span(0, 1), 1, api.OK},
		{hullOf(100, 200, known("a", 150, 1, 0, 1)), 0, span(5, 7), 7, api.OK},
		{hullOf(100, 200, known("a", 150, 0, 0, 0)), 0, span(0, 0), 1, api.OK},
		{hullOf(100, 200, known("a", 150, 1, 0, 1000)), 0, all(), 1000000, api.OK}, // Down is 1
		{hullOf(100, 200, known("a", 150, 0, 0, 1000)), 0, all(), 0, api.ErrDown},
		{hullOf(100, 200, known("a", 150, 0, 0, 1000)), 0, span(0, 999), 999001, api.OK},
		{hullOf(100, 200, known("a", 150, 0, 0, 5000)), 0, all(), 0, api.ErrDown},
		{hullOf(100, 200, known("a", 150, 1000000, 0, 2000)), 0, all(), 0, api.ErrDown},
		{hullOf(100, 200, known("a", 150, 1000000, 0, 1999)), 0, all(), 999001, api.OK},
		{hullOf(100, 200, known("a", 150, 999999, 0, 1000)), 0, all(), 2, api.OK},
		{hullOf(100, 200, part("a", 150, 0, 1000000, 0, 0, 1)), 0, span(3, 3), 4, api.OK},
		// At the ends of the ground ballast does for one end, but not for the other one.
		{hullOf(100, 200, known("a", 100, 0, 0, 0)), 0, all(), 1, api.OK},
		{hullOf(100, 200, known("a", 200, 0, 0, 0)), 0, all(), 1, api.OK},
		{hullOf(100, 200, known("a", 100, 0, 0, 0), known("b", 300, 5, 0, 0)), 0, all(), 5, api.OK},
		{hullOf(100, 200, known("a", 200, 0, 0, 0), known("b", 300, 5, 0, 0)), 0, all(), 0, api.ErrDown},
		{hullOf(100, 200, known("a", 200, 0, 0, 0), known("b", 0, 5, 0, 0)), 0, all(), 5, api.OK},
		{hullOf(100, 200, known("a", 100, 0, 0, 0), known("b", 0, 5, 0, 0)), 0, all(), 0, api.ErrDown},
		// Numbers are rounded up: for 1, 50 and 51 too little with 50 for each kilogram.
		{hullOf(100, 200, known("a", 150, 0, 0, 0), known("b", 99, 1, 0, 0)), 0, all(), 1, api.OK},
		{hullOf(100, 200, known("a", 150, 0, 0, 0), known("b", 50, 1, 0, 0)), 0, all(), 1, api.OK},
		{hullOf(100, 200, known("a", 150, 0, 0, 0), known("b", 49, 1, 0, 0)), 0, all(), 2, api.OK},
		{hullOf(100, 200, known("a", 150, 0, 0, 0), known("b", 201, 1, 0, 0)), 0, all(), 1, api.OK},
		{hullOf(100, 200, known("a", 150, 0, 0, 0), known("b", 250, 1, 0, 0)), 0, all(), 1, api.OK},
		{hullOf(100, 200, known("a", 150, 0, 0, 0), known("b", 251, 1, 0, 0)), 0, all(), 2, api.OK},
		// The greatest arms: 1 for each kilogram, and all others 5000 away.
		{hullOf(0, 1, known("a", 0, 0, 0, 0), known("b", 5000, 200, 0, 0)), 0, all(), 999800, api.OK},
		{hullOf(0, 1, known("a", 0, 0, 0, 0), known("b", 5000, 201, 0, 0)), 0, all(), 0, api.ErrDown},
		// Where both ends of the tide would do.
		{dip(), 1, span(0, 100), 50, api.OK},
		{dip(), 1, span(0, 34), 2, api.OK},
		{dip(), 1, span(0, 33), 0, api.OK},
		{dip(), 1, span(51, 52), 13, api.OK},
		{dip(), 1, span(52, 100), 0, api.OK},
		{turned(dip()), 1, span(0, 100), 50, api.OK},
		{sampleH(), 1, span(0, 134), 14, api.OK},
		{sampleH(), 1, span(0, 133), 0, api.OK},
	} {
		ballastIs(t, i, c.h, c.part, c.tide, c.want, c.e)
	}
}

// TestMaxParts is hulls of MaxStParts parts whose names are as long as they can be.
func TestMaxParts(t *testing.T) {
	h := full(2500, 0, 5000, 800)
	for i := range h.Parts {
		h.Parts[i].Name = "abcdefghijklmno" + string(rune('a'+i))
		h.Parts[i].Weight.Lo = 0
	}
	h.Parts[9].Weight = span(1000000, 1000000)
	leastIs(t, "10 parts", h, 800, bal(1000000, 2500000000, 2500000000), api.OK)
	tideIs(t, "10 parts", h, 819, api.OK)
	whyIs(t, "10 parts", h, all(), api.StFloats, 820, api.OK)
	ballastIs(t, "10 parts", h, 9, span(0, 839), 950001, api.OK)
	ballastIs(t, "10 parts", h, 9, span(0, 840), 0, api.ErrDown)
	truth, why, e := stand.Show(h, 820)
	if len(truth.Weights) != 10 || len(truth.Lifts) != 10 || why != api.StFloats || e != api.OK {
		t.Errorf("Show = %v, %d, %d", truth, why, e)
	}
}
