package block_test

import (
	"testing"

	"orlop/api"
	"orlop/block"
)

// TestExamples is the examples of the chapter, and example 7 of the document.
func TestExamples(t *testing.T) {
	h, v := sampleH(), sampleV()
	weightsAre(t, "V", h, v, spans(span(100, 120), span(200, 220), span(50, 60), span(300, 310)), api.OK)
	pullIs(t, "H", h, nil, 12, span(175, 234), api.OK)
	pullIs(t, "V", h, v, 12, span(175, 216), api.OK)
	heaviestIs(t, "V", h, v, 12, ints(100, 200, 50, 310), api.OK)
	badIs(t, "H", h, nil, ints(0, 0, 1, 1), 1, api.OK)
	badIs(t, "V", h, v, ints(0, 0, 1, 1), -1, api.OK)
	badIs(t, "H", h, nil, ints(0, 1, 0, 2), 0, api.OK)
	fewestIs(t, "H", h, nil, ints(0, 0, 1, 2), api.OK)
	fewestIs(t, "V", h, v, ints(0, 0, 1, 1), api.OK)
	winchIs(t, "H", h, nil, 1, 438, api.OK)
	winchIs(t, "H", h, nil, 2, 234, api.OK)
	winchIs(t, "H", h, nil, 3, 198, api.OK)
	sandIs(t, "H", h, nil, 2, 564, api.OK)
	sandIs(t, "H", h, nil, 1, 301, api.OK)
}

// TestWeights is P7.2: what weighings tell of parts.
func TestWeights(t *testing.T) {
	h, w := sampleH(), weighed
	own := spans(span(100, 120), span(200, 220), span(50, 60), span(300, 330))
	for i, c := range []struct {
		l    []api.BlWeighed
		want []api.Span
	}{
		{nil, own},
		{weighings(w(15, 0, 1000)), own},
		{weighings(w(15, 650, 730)), own},
		{weighings(w(1, 0, 1000000)), own},
		{weighings(w(1, 105, 110)), spans(span(105, 110), own[1], own[2], own[3])},
		{weighings(w(1, 0, 100)), spans(span(100, 100), own[1], own[2], own[3])},
		{weighings(w(12, 389, 390)), spans(own[0], own[1], span(59, 60), span(329, 330))},
		{weighings(w(15, 0, 650)), spans(span(100, 100), span(200, 200), span(50, 50), span(300, 300))}, // just one truth
		{weighings(w(15, 730, 1000)), spans(span(120, 120), span(220, 220), span(60, 60), span(330, 330))},
		{weighings(w(15, 655, 655)), spans(span(100, 105), span(200, 205), span(50, 55), span(300, 305))},
		{weighings(w(15, 655, 655), w(3, 303, 400)), spans(span(100, 105), span(200, 205), span(50, 52), span(300, 302))}, // of some parts more than of all
		{weighings(w(3, 303, 400), w(15, 655, 655)), spans(span(100, 105), span(200, 205), span(50, 52), span(300, 302))},
		{weighings(w(15, 655, 655), w(12, 354, 390)), spans(span(100, 101), span(200, 201), span(50, 55), span(300, 305))},
		{weighings(w(7, 360, 370), w(3, 300, 305), w(15, 690, 695)), spans(span(100, 105), span(200, 205), span(55, 60), span(325, 330))},
		{weighings(w(3, 300, 320), w(3, 320, 340)), spans(span(100, 120), span(200, 220), own[2], own[3])},
		{weighings(w(3, 300, 310), w(3, 310, 340)), spans(span(100, 110), span(200, 210), own[2], own[3])},
		{weighings(w(3, 339, 340), w(1, 100, 119)), spans(span(119, 119), span(220, 220), own[2], own[3])},
	} {
		weightsAre(t, i, h, c.l, c.want, api.OK)
	}
	weightsAre(t, "a part", row(span(0, 100000)), nil, spans(span(0, 100000)), api.OK)
	weightsAre(t, "a part", row(span(0, 100000)), weighings(w(1, 5, 9), w(1, 7, 1000000), w(1, 0, 7)), spans(span(7, 7)), api.OK)
	weightsAre(t, "nothing", known(0, 0), weighings(w(3, 0, 0)), spans(span(0, 0), span(0, 0)), api.OK)
	wide := row(span(0, 100000), span(0, 100000), span(0, 100000))
	weightsAre(t, "wide", wide, weighings(w(7, 299999, 1000000)), spans(span(99999, 100000), span(99999, 100000), span(99999, 100000)), api.OK)
	weightsAre(t, "wide", wide, weighings(w(7, 150000, 150000), w(3, 0, 70000)), spans(span(0, 70000), span(0, 70000), span(80000, 100000)), api.OK)
}

// TestPull is P7.2: what it takes to pull blocks, rounded down and up.
func TestPull(t *testing.T) {
	for i, c := range []struct {
		h    api.BlHull
		l    []api.BlWeighed
		set  int
		want api.Span
	}{
		{sampleH(), nil, 15, span(325, 438)},
		{sampleH(), nil, 1, span(50, 72)},
		{sampleH(), nil, 8, span(150, 198)},
		{sampleH(), sampleV(), 8, span(150, 186)},
		{sampleH(), sampleV(), 14, span(275, 348)},
		{sampleH(), sampleV(), 6, span(125, 168)}, // some parts of the weighing, and others
		{known(999), nil, 1, span(999, 999)},
		{dried(known(999), 1, 1), nil, 1, span(0, 1)},
		{dried(known(1000), 1, 1), nil, 1, span(1, 1)},
		{dried(known(1001), 1, 1), nil, 1, span(1, 2)},
		{dried(known(1999), 1, 2), nil, 1, span(1, 4)},
		{dried(known(2000), 1, 2), nil, 1, span(2, 4)},
		{dried(known(2001), 1, 2), nil, 1, span(2, 5)},
		{dried(known(0), 1, 2000), nil, 1, span(0, 0)},
		{dried(known(1), 1, 1), nil, 1, span(0, 1)},
		{dried(row(span(1, 3), span(2, 3)), 333, 334), nil, 3, span(0, 3)}, // rounded once, in the end
		{dried(row(span(2, 3), span(2, 3)), 333, 334), nil, 3, span(1, 3)},
		{dried(row(span(0, 1), span(0, 1)), 500, 500), nil, 3, span(0, 1)},
		{dried(known(100000, 100000, 100000, 100000, 100000, 100000, 100000, 100000), 1, 2000), nil, 255, span(800, 1600000)},
		{known(100000, 100000), weighings(weighed(3, 200000, 1000000)), 2, span(100000, 100000)},
		{row(span(0, 10), span(0, 10), span(0, 10)), weighings(weighed(3, 12, 15)), 6, span(2, 20)},
		{row(span(0, 10), span(0, 10), span(0, 10)), weighings(weighed(3, 12, 15)), 7, span(12, 25)},
		{row(span(0, 10), span(0, 10), span(0, 10)), weighings(weighed(7, 12, 15), weighed(6, 0, 5)), 3, span(7, 15)},
		{row(span(0, 10), span(0, 10), span(0, 10), span(0, 10)), weighings(weighed(15, 20, 20), weighed(3, 3, 8), weighed(12, 5, 14)), 6, span(2, 18)}, // half of each of both
	} {
		pullIs(t, i, c.h, c.l, c.set, c.want, api.OK)
	}
}

// TestHeaviest is P7.3: the first of the heaviest truths.
func TestHeaviest(t *testing.T) {
	three := row(span(0, 10), span(0, 10), span(0, 10))
	w := weighed
	for i, c := range []struct {
		h    api.BlHull
		l    []api.BlWeighed
		set  int
		want []int
	}{
		{sampleH(), nil, 15, ints(120, 220, 60, 330)},
		{sampleH(), nil, 2, ints(100, 220, 50, 300)},
		{sampleH(), nil, 12, ints(100, 200, 60, 330)},
		{sampleH(), sampleV(), 4, ints(100, 200, 60, 300)},
		{sampleH(), sampleV(), 8, ints(100, 200, 50, 310)},
		{sampleH(), sampleV(), 6, ints(100, 220, 60, 300)},
		{three, nil, 1, ints(10, 0, 0)},
		{three, weighings(w(3, 12, 15)), 1, ints(10, 2, 0)},
		{three, weighings(w(3, 12, 15)), 2, ints(2, 10, 0)},
		{three, weighings(w(3, 12, 15)), 3, ints(5, 10, 0)},
		{three, weighings(w(3, 12, 15)), 4, ints(2, 10, 10)},
		{three, weighings(w(3, 12, 15)), 6, ints(2, 10, 10)},
		{three, weighings(w(3, 12, 15)), 7, ints(5, 10, 10)},
		{three, weighings(w(7, 25, 25)), 1, ints(10, 5, 10)},
		{three, weighings(w(7, 25, 25)), 4, ints(5, 10, 10)},
		{three, weighings(w(7, 25, 25)), 7, ints(5, 10, 10)},
		{three, weighings(w(7, 5, 9), w(3, 3, 3)), 4, ints(0, 3, 6)},
		{three, weighings(w(7, 5, 9), w(3, 3, 3)), 6, ints(0, 3, 6)},
		{three, weighings(w(7, 5, 9), w(3, 3, 3)), 3, ints(0, 3, 2)},
		{three, weighings(w(7, 30, 30)), 1, ints(10, 10, 10)},
		{three, weighings(w(7, 0, 0)), 7, ints(0, 0, 0)},
		{known(7), nil, 1, ints(7)},
		{row(span(0, 100000), span(0, 100000)), weighings(w(3, 123456, 123456)), 3, ints(23456, 100000)},
		{row(span(0, 100000), span(0, 100000)), weighings(w(3, 123456, 123456)), 1, ints(100000, 23456)},
	} {
		heaviestIs(t, i, c.h, c.l, c.set, c.want, api.OK)
	}
}

// TestBad is P7.4: the numbers that are no cut, and the first bad block.
func TestBad(t *testing.T) {
	h := sampleH()
	for i, c := range []struct {
		cut  []int
		want int
		e    api.Errno
	}{
		{nil, 0, api.ErrLong},
		{ints(0), 0, api.ErrLong},
		{ints(0, 0, 0), 0, api.ErrLong},
		{ints(0, 0, 0, 0, 0), 0, api.ErrLong},
		{make([]int, 100000), 0, api.ErrLong},
		{ints(1, 0, 0), 0, api.ErrLong}, // before it is no cut
		{ints(-1, 0, 0, 0), 0, api.ErrForm},
		{ints(1, 0, 0, 0), 0, api.ErrForm},
		{ints(1, 1, 1, 1), 0, api.ErrForm},
		{ints(0, -1, 0, 0), 0, api.ErrForm},
		{ints(0, 0, 0, -1), 0, api.ErrForm},
		{ints(0, 2, 1, 0), 0, api.ErrForm},
		{ints(0, 1, 1, 3), 0, api.ErrForm},
		{ints(0, 0, 0, 2), 0, api.ErrForm},
		{ints(0, 1, 2, 4), 0, api.ErrForm},
		{ints(0, 1, 0, 3), 0, api.ErrForm}, // before a block that does not hang together
		{ints(0, 1, 2, 3), -1, api.OK},
		{ints(0, 0, 1, 2), -1, api.OK},
		{ints(0, 1, 1, 2), -1, api.OK},
		{ints(0, 0, 0, 0), 0, api.OK},
		{ints(0, 0, 0, 1), 0, api.OK},
		{ints(0, 1, 1, 1), 1, api.OK},
		{ints(0, 0, 1, 1), 1, api.OK},
		{ints(0, 1, 2, 2), 2, api.OK},
		{ints(0, 1, 0, 2), 0, api.OK},
		{ints(0, 1, 2, 1), 1, api.OK},
		{ints(0, 1, 2, 0), 0, api.OK},
		{ints(0, 1, 0, 1), 0, api.OK},
		{ints(0, 1, 1, 0), 0, api.OK}, // it does not hang together, and is too heavy
	} {
		badIs(t, i, h, nil, c.cut, c.want, c.e)
	}
	for _, n := range far() {
		for at := range 4 {
			cut := ints(0, 1, 2, 3)
			cut[at] = n
			badIs(t, n, h, nil, cut, 0, api.ErrForm)
		}
	}
	eight := known(1, 1, 1, 1, 1, 1, 1, 1)
	badIs(t, "8 blocks", eight, nil, ints(0, 1, 2, 3, 4, 5, 6, 7), -1, api.OK)
	badIs(t, "9 blocks", eight, nil, ints(0, 1, 2, 3, 4, 5, 6, 8), 0, api.ErrForm)
	badIs(t, "8 blocks", eight, nil, ints(0, 1, 2, 3, 4, 5, 6, 6), -1, api.OK)
	badIs(t, "the last block", eight, nil, ints(0, 1, 2, 3, 4, 5, 6, 0), 0, api.OK)
	badIs(t, "the last block", pulled(known(1, 1, 1, 1, 1, 1, 1, 2), 1), nil, ints(0, 1, 2, 3, 4, 5, 6, 7), 7, api.OK)
	badIs(t, "a part", known(5), nil, ints(0), -1, api.OK)
	badIs(t, "a part", known(5), nil, ints(1), 0, api.ErrForm)
	badIs(t, "both in one cut", pulled(known(1, 9, 1), 8), nil, ints(0, 1, 0), 0, api.OK)
	badIs(t, "both in one cut", pulled(known(9, 1, 9, 1), 8), nil, ints(0, 1, 2, 1), 0, api.OK)
}

// TestTooHeavy is P7.4: a pull that is just the winch, and just above it, in the wettest sand alone.
func TestTooHeavy(t *testing.T) {
	for i, c := range []struct {
		h    api.BlHull
		l    []api.BlWeighed
		want int
	}{
		{pulled(known(100), 100), nil, -1},
		{pulled(known(101), 100), nil, 0},
		{pulled(dried(known(100), 1000, 1001), 100), nil, 0}, // 100.1
		{pulled(dried(known(100), 999, 999), 100), nil, -1},
		{pulled(dried(known(1000), 1, 1), 1), nil, -1},
		{pulled(dried(known(1001), 1, 1), 1), nil, 0},
		{pulled(dried(row(span(90, 110)), 1, 909), 100), nil, -1}, // 99.99
		{pulled(dried(row(span(90, 110)), 1, 910), 100), nil, 0},
		{pulled(dried(known(0), 1, 2000), 1), nil, -1},
		{pulled(row(span(90, 110)), 100), weighings(weighed(1, 0, 100)), -1},
		{pulled(row(span(90, 110)), 100), weighings(weighed(1, 0, 101)), 0},
	} {
		badIs(t, i, c.h, c.l, ints(0), c.want, api.OK)
	}
}

// TestFewest is P7.4: the first good cut with the fewest blocks.
func TestFewest(t *testing.T) {
	five := known(1, 1, 1, 1, 1)
	star := jointed(five, [2]int{0, 1}, [2]int{0, 2}, [2]int{0, 3}, [2]int{0, 4})
	ring := jointed(known(2, 1, 1, 2), [2]int{0, 1}, [2]int{1, 2}, [2]int{2, 3}, [2]int{0, 3})
	w := weighed
	for i, c := range []struct {
		h    api.BlHull
		l    []api.BlWeighed
		want []int
		e    api.Errno
	}{
		{known(5), nil, ints(0), api.OK},
		{pulled(known(5), 5), nil, ints(0), api.OK},
		{pulled(known(5), 4), nil, nil, api.ErrDown},
		{pulled(sampleH(), 197), nil, nil, api.ErrDown},         // d alone takes 198
		{pulled(sampleH(), 198), nil, ints(0, 1, 1, 2), api.OK}, // a and b take up to 204
		{pulled(sampleH(), 204), nil, ints(0, 0, 1, 2), api.OK},
		{pulled(sampleH(), 197), sampleV(), ints(0, 1, 1, 2), api.OK}, // d with V up to 186
		{pulled(sampleH(), 233), nil, ints(0, 0, 1, 2), api.OK},
		{pulled(sampleH(), 234), nil, ints(0, 0, 1, 1), api.OK},
		{pulled(sampleH(), 437), nil, ints(0, 0, 0, 1), api.OK},
		{pulled(sampleH(), 438), nil, ints(0, 0, 0, 0), api.OK},
		{pulled(five, 5), nil, ints(0, 0, 0, 0, 0), api.OK},
		{pulled(five, 4), nil, ints(0, 0, 0, 0, 1), api.OK},
		{pulled(five, 3), nil, ints(0, 0, 0, 1, 1), api.OK},
		{pulled(five, 2), nil, ints(0, 0, 1, 1, 2), api.OK},
		{pulled(five, 1), nil, ints(0, 1, 2, 3, 4), api.OK},
		{pulled(star, 4), nil, ints(0, 0, 0, 0, 1), api.OK},
		{pulled(star, 2), nil, ints(0, 0, 1, 2, 3), api.OK},
		{jointed(five), nil, ints(0, 1, 2, 3, 4), api.OK},
		{jointed(five, [2]int{0, 4}, [2]int{1, 3}), nil, ints(0, 1, 2, 1, 0), api.OK},
		{pulled(jointed(five, [2]int{0, 4}, [2]int{1, 3}), 1), nil, ints(0, 1, 2, 3, 4), api.OK},
		{pulled(ring, 3), nil, ints(0, 0, 1, 1), api.OK},
		{pulled(ring, 4), nil, ints(0, 0, 0, 1), api.OK}, // of several the first one
		{pulled(ring, 2), nil, ints(0, 1, 1, 2), api.OK},
		{pulled(known(3, 1, 3, 1), 4), nil, ints(0, 0, 1, 1), api.OK},
		{pulled(known(1, 3, 1, 3), 4), nil, ints(0, 0, 1, 1), api.OK},
		{pulled(known(1, 3, 3, 1), 4), nil, ints(0, 0, 1, 1), api.OK},
		{pulled(known(0, 5, 0, 5, 0), 5), nil, ints(0, 0, 0, 1, 1), api.OK},
		{pulled(known(0, 0, 0), 1), nil, ints(0, 0, 0), api.OK},
		{pulled(row(span(0, 10), span(0, 10), span(0, 10)), 20), weighings(w(7, 0, 20)), ints(0, 0, 0), api.OK},
		{pulled(row(span(0, 10), span(0, 10), span(0, 10)), 20), weighings(w(7, 0, 21)), ints(0, 0, 1), api.OK},
		{pulled(row(span(0, 10), span(0, 10), span(0, 10)), 12), weighings(w(7, 0, 20), w(6, 0, 12)), ints(0, 1, 1), api.OK},
		{pulled(row(span(0, 10), span(0, 10)), 9), nil, nil, api.ErrDown},
		{pulled(row(span(0, 10), span(0, 10)), 9), weighings(w(3, 0, 9)), ints(0, 0), api.OK},
	} {
		fewestIs(t, i, c.h, c.l, c.want, c.e)
	}
	fewestIs(t, "8 parts", pulled(known(1, 1, 1, 1, 1, 1, 1, 1), 1), nil, ints(0, 1, 2, 3, 4, 5, 6, 7), api.OK)
	fewestIs(t, "8 parts", pulled(known(3, 3, 3, 3, 3, 3, 3, 3), 8), nil, ints(0, 0, 1, 1, 2, 2, 3, 3), api.OK)
}

// TestWinch is P7.5: the weakest winch with which so many blocks do.
func TestWinch(t *testing.T) {
	h := sampleH()
	for i, c := range []struct {
		h            api.BlHull
		l            []api.BlWeighed
		blocks, want int
		e            api.Errno
	}{
		{h, nil, 4, 198, api.OK},
		{h, nil, 8, 198, api.OK},
		{h, sampleV(), 1, 420, api.OK},
		{h, sampleV(), 2, 216, api.OK},
		{h, sampleV(), 3, 186, api.OK}, // a, b with c, d
		{h, sampleV(), 4, 186, api.OK},
		{pulled(h, 1), nil, 2, 234, api.OK}, // whatever its Winch is
		{pulled(h, api.MaxBlWinch), nil, 2, 234, api.OK},
		{known(0, 0, 0), nil, 1, 1, api.OK},
		{known(0), nil, 8, 1, api.OK},
		{known(1), nil, 1, 1, api.OK},
		{dried(known(1), 1, 1), nil, 1, 1, api.OK},
		{dried(known(1000), 1, 1), nil, 1, 1, api.OK},
		{dried(known(1001), 1, 1), nil, 1, 2, api.OK},
		{known(5), nil, 1, 5, api.OK},
		{dried(known(5), 1, 1001), nil, 1, 6, api.OK},
		{dried(known(100000, 100000, 100000, 100000, 100000, 100000, 100000, 100000), 1, 2000), nil, 1, 1600000, api.OK},
		{dried(known(100000, 100000, 100000, 100000, 100000, 100000, 100000, 100000), 1, 2000), nil, 8, 200000, api.OK},
		{jointed(h, [2]int{0, 1}, [2]int{2, 3}), nil, 1, 0, api.ErrDown},
		{jointed(h, [2]int{0, 1}, [2]int{2, 3}), nil, 2, 234, api.OK},
		{jointed(h), nil, 3, 0, api.ErrDown},
		{jointed(h), nil, 4, 198, api.OK},
		{jointed(known(0, 0)), nil, 1, 0, api.ErrDown},
	} {
		winchIs(t, i, c.h, c.l, c.blocks, c.want, c.e)
	}
}

// TestSand is P7.5: the wettest sand with which so many blocks do.
func TestSand(t *testing.T) {
	h := sampleH()
	for i, c := range []struct {
		h            api.BlHull
		l            []api.BlWeighed
		blocks, want int
		e            api.Errno
	}{
		{h, nil, 3, 666, api.OK},
		{h, nil, 8, 666, api.OK},
		{h, sampleV(), 2, 611, api.OK},
		{dried(h, 1, 1), nil, 2, 564, api.OK}, // whatever its Sand is
		{dried(h, 2000, 2000), nil, 2, 564, api.OK},
		{known(0, 0), nil, 1, 2000, api.OK},
		{pulled(known(0, 0), 1), nil, 1, 2000, api.OK},
		{pulled(known(1), 1), nil, 1, 1000, api.OK},
		{pulled(known(1), 2), nil, 1, 2000, api.OK},
		{pulled(known(1), 3), nil, 1, 2000, api.OK},
		{pulled(known(10001), 20000), nil, 1, 1999, api.OK},
		{pulled(known(10000), 20000), nil, 1, 2000, api.OK},
		{pulled(known(999), 1), nil, 1, 1, api.OK},
		{pulled(known(1000), 1), nil, 1, 1, api.OK},
		{pulled(known(1001), 1), nil, 1, 0, api.ErrDown},
		{pulled(known(500), 1), nil, 1, 2, api.OK},
		{pulled(known(501), 1), nil, 1, 1, api.OK},
		{pulled(known(600, 600), 1), nil, 1, 0, api.ErrDown},
		{pulled(known(600, 600), 1), nil, 2, 1, api.OK},
		{pulled(known(600, 600), 1), nil, 8, 1, api.OK},
		{known(100000, 100000, 100000, 100000, 100000, 100000, 100000, 100000), nil, 1, 2000, api.OK}, // the strongest winch
		{jointed(h, [2]int{0, 1}, [2]int{2, 3}), nil, 1, 0, api.ErrDown},
		{jointed(h, [2]int{0, 1}, [2]int{2, 3}), nil, 2, 564, api.OK},
		{jointed(known(0, 0)), nil, 1, 0, api.ErrDown},
		{jointed(known(0, 0)), nil, 2, 2000, api.OK},
	} {
		sandIs(t, i, c.h, c.l, c.blocks, c.want, c.e)
	}
}

// TestWeighedTwice is P7.13: six weighings, in two orders and told twice.
func TestWeighedTwice(t *testing.T) {
	h, w := sampleH(), weighed
	once := weighings(w(3, 303, 400), w(15, 655, 655), w(1, 101, 104))
	want := spans(span(101, 104), span(200, 204), span(50, 52), span(300, 302))
	weightsAre(t, "once", h, once, want, api.OK)
	weightsAre(t, "twice", h, append(once, once...), want, api.OK)
	weightsAre(t, "turned", h, weighings(once[2], once[1], once[0]), want, api.OK)
	weightsAre(t, "turned, and twice", h, weighings(once[1], once[2], once[0], once[0], once[2], once[1]), want, api.OK)
	if _, e := block.Weights(h, append(append(once, once...), once[0])); e != api.ErrLong {
		t.Errorf("7 weighings have the error %d", e)
	}
}
