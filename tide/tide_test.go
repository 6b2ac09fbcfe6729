package tide_test

import (
	"slices"
	"testing"

	"orlop/api"
	"orlop/tide"
)

// TestExamples is the table of the chapter, and what is just beside it.
func TestExamples(t *testing.T) {
	b, s := beachB(), shipB()
	stops(t, "0, 0", b, s, 0, 0, span(7200, 12000))
	stops(t, "0, 4", b, s, 0, 4, span(6400, 11000))
	stops(t, "1, 0", b, s, 1, 0, span(9600, 15500))
	ashore(t, 0, b, s, 0, 0)
	ashore(t, 6, b, s, 6, 0)
	ashore(t, 7, b, s, 7)
	ashore(t, 14, b, s, 14, 1)
	leastIs(t, 0, b, s, 0, 0, api.OK)
	leastIs(t, 1, b, s, 1, 14, api.OK)
	firstIs(t, 3, b, s, 3, 0, 0, api.OK)
	firstIs(t, 4, b, s, 4, 1, 14, api.OK)
	firstIs(t, 18, b, s, 18, 0, 0, api.ErrDown)
	missesAt(t, "1, 0", b, s, 1, 0, api.TdTruth{Slope: 20, Draft: 300, Height: 560, Wind: -10}, 12500, api.OK)
	missesAt(t, "0, 7", b, s, 0, 7, api.TdTruth{Slope: 25, Draft: 306, Height: 500, Wind: -10}, 5960, api.OK)
	missesAt(t, "0, 6", b, s, 0, 6, api.TdTruth{}, 0, api.ErrDown)
	liesAt(t, "no pulls", b, s, pull(0, 0), nil, span(7200, 12000), api.OK)
	liesAt(t, "a pull", b, s, pull(0, 0), []api.TdPull{pull(1, 0)}, span(11600, 18000), api.OK)
	liesAt(t, "a pull with 20", b, s, pull(0, 0), []api.TdPull{pull(1, 20)}, span(7600, 13000), api.OK)
	laterIs(t, 11600, b, s, pull(0, 0), 11600, 1, api.OK)
	laterIs(t, 11601, b, s, pull(0, 0), 11601, 0, api.ErrDown)
}

// TestRounded is P2.2: positions are rounded down, also those below 0.
func TestRounded(t *testing.T) {
	for _, c := range []struct{ rise, slope, want int }{
		{0, 7, 0}, {1, 7, 142}, {-1, 7, -143}, {7, 7, 1000}, {-7, 7, -1000}, {-6, 7, -858}, {6, 7, 857},
		{1, 200, 5}, {-1, 200, -5}, {1, 3, 333}, {-1, 3, -334}, {1, 1, 1000}, {-1, 1, -1000}, {-1, 199, -6}, {1, 199, 5},
	} {
		b := api.TdBeach{Slope: span(c.slope, c.slope), Marks: span(c.want, c.want), Tides: []api.TdTide{high(0, 100+c.rise, 100+c.rise, 0, 0)}}
		s := api.TdShip{Draft: span(100, 100), Sink: 1}
		stops(t, c, b, s, 0, 0, span(c.want, c.want))
		liesAt(t, c, b, s, pull(0, 0), nil, span(c.want, c.want), api.OK)
		ashore(t, c, b, s, 0, 0)
		missesAt(t, c, b, s, 0, 0, api.TdTruth{}, 0, api.ErrDown)
		truth := api.TdTruth{Slope: c.slope, Draft: 100, Height: 100 + c.rise}
		missesAt(t, c, withMarks(b, c.want+1, c.want+1), s, 0, 0, truth, c.want, api.OK)
		missesAt(t, c, withMarks(b, c.want-1, c.want-1), s, 0, 0, truth, c.want, api.OK)
	}
}

// TestExtremes is P2.2: everything at its limits.
func TestExtremes(t *testing.T) {
	b := api.TdBeach{Slope: span(1, 200), Marks: span(-2000000, 2000000), Bite: 200, Tides: []api.TdTide{
		high(0, 0, 1500, -200, 200), high(40000, 1500, 1500, 200, 200), high(40000, 0, 0, -200, -200),
	}}
	s := api.TdShip{Draft: span(0, 1500), Sink: 50}
	stops(t, "the widest", b, s, 0, 0, span(-1700000, 1700000))
	stops(t, "the widest, with ballast", b, s, 0, 40, span(-3700000, -1500))
	stops(t, "the highest", b, s, 1, 0, span(1000, 1700000))
	stops(t, "the lowest", b, s, 2, 40, span(-3700000, -11000))
	ashore(t, "the widest", b, s, 0, 0, 1, 2)
	ashore(t, "6 tanks", b, s, 6, 0, 1, 2)
	ashore(t, "7 tanks", b, s, 7, 1)
	ashore(t, "40 tanks", b, s, 40, 1)
	liesAt(t, "pulled", b, s, pull(0, 40), []api.TdPull{pull(1, 0)}, span(2000, 1900000), api.OK)
	liesAt(t, "not pulled", b, s, pull(1, 0), []api.TdPull{pull(2, 40)}, span(1000, 1700000), api.OK)
	missesAt(t, "all tanks", b, s, 0, 40, api.TdTruth{Slope: 1, Height: 0, Wind: -200}, -2200000, api.OK)
	// Only in the last truth she misses the marks.
	last := api.TdTruth{Slope: 200, Draft: 1500, Height: 1500, Wind: 200}
	only := api.TdBeach{Slope: span(1, 200), Marks: span(1001, 2000000), Tides: []api.TdTide{high(0, 1500, 1500, 200, 200)}}
	missesAt(t, "the last", only, s, 0, 0, last, 1000, api.OK)
	only.Tides[0] = high(0, 0, 1500, -200, 200)
	s.Draft = span(0, 0)
	missesAt(t, "too far", withMarks(only, -2000000, 1699999), s, 0, 0, api.TdTruth{Slope: 1, Height: 1500, Wind: 200}, 1700000, api.OK)
	missesAt(t, "on the mark", withMarks(only, -2000000, 1700000), s, 0, 0, api.TdTruth{}, 0, api.ErrDown)
}

// TestArguments is the errors of a tide and of ballast, in their order.
func TestArguments(t *testing.T) {
	b, s := beachB(), shipB()
	var none api.TdTruth
	for _, n := range []int{-1, 2, 12, least, least + 1, 1 << 32, -1 << 32, greatest} {
		for _, ballast := range []int{0, 40, -1, 41} {
			if w, e := tide.Stops(b, s, n, ballast); w != span(0, 0) || e != api.ErrNone {
				t.Errorf("Stops on %d: %v, %d", n, w, e)
			}
			missesAt(t, n, b, s, n, ballast, none, 0, api.ErrNone)
			liesAt(t, n, b, s, pull(n, ballast), make([]api.TdPull, 7), span(0, 0), api.ErrNone)
			laterIs(t, n, b, s, pull(n, ballast), 0, 0, api.ErrNone)
		}
		leastIs(t, n, b, s, n, 0, api.ErrNone)
	}
	for _, n := range []int{-1, 41, least, least + 1, 1 << 32, -1 << 32, greatest} {
		if w, e := tide.Stops(b, s, 1, n); w != span(0, 0) || e != api.ErrRange {
			t.Errorf("Stops with %d: %v, %d", n, w, e)
		}
		if l, e := tide.Ashore(b, s, n); l != nil || e != api.ErrRange {
			t.Errorf("Ashore with %d: %v, %d", n, l, e)
		}
		missesAt(t, n, b, s, 1, n, none, 0, api.ErrRange)
		liesAt(t, n, b, s, pull(0, n), make([]api.TdPull, 7), span(0, 0), api.ErrRange)
		laterIs(t, n, b, s, pull(0, n), 0, 0, api.ErrRange)
	}
	for _, day := range []int{-1, 40001, least, greatest, 1<<32 + 3} {
		firstIs(t, day, b, s, day, 0, 0, api.ErrRange)
	}
	stops(t, "with 40", b, s, 1, 40, span(1600, 5500))
	ashore(t, "with 40", b, s, 40)
}

// TestMarks is P2.2, P2.3 and P2.4: marks that are just met, and just missed.
func TestMarks(t *testing.T) {
	b, s := beachB(), shipB()
	low := api.TdTruth{Slope: 25, Draft: 310, Height: 500, Wind: -10}
	far := api.TdTruth{Slope: 20, Draft: 300, Height: 520, Wind: 20}
	for _, c := range []struct {
		lo, hi int
		t      api.TdTruth
		at     int
	}{
		{7200, 12000, api.TdTruth{}, 0},
		{7201, 12000, low, 7200},
		{7200, 11999, far, 12000},
		{7201, 11999, far, 12000}, // its Slope is less
		{7240, 12000, low, 7200},
		{7241, 12000, api.TdTruth{Slope: 25, Draft: 309, Height: 500, Wind: -10}, 7240},
		{12001, 12001, api.TdTruth{Slope: 20, Draft: 300, Height: 500, Wind: -10}, 9500},
		{9500, 9500, api.TdTruth{Slope: 20, Draft: 300, Height: 500, Wind: -9}, 9550},
		{-2000000, 10999, api.TdTruth{Slope: 20, Draft: 300, Height: 500, Wind: 20}, 11000},
		{-2000000, 11000, api.TdTruth{Slope: 20, Draft: 300, Height: 501, Wind: 20}, 11050},
	} {
		b := withMarks(b, c.lo, c.hi)
		e := api.OK
		if c.at == 0 {
			e = api.ErrDown
			ashore(t, c, b, s, 0, 0)
		} else {
			ashore(t, c, b, s, 0)
		}
		missesAt(t, c, b, s, 0, 0, c.t, c.at, e)
	}
}

// TestBallast is P2.3: no ballast, all of it, and none that does.
func TestBallast(t *testing.T) {
	b := exact(span(0, 1000), span(7, 7))
	for _, c := range []struct {
		height, sink, want int
		e                  api.Errno
	}{
		{7, 1, 0, api.OK}, {8, 1, 1, api.OK}, {47, 1, 40, api.OK}, {48, 1, 0, api.ErrDown}, {0, 1, 0, api.OK},
		{7, 0, 0, api.OK}, {8, 0, 0, api.ErrDown}, {57, 50, 1, api.OK}, {58, 50, 0, api.ErrDown}, {49, 50, 0, api.ErrDown},
		{50, 50, 1, api.OK}, {107, 50, 2, api.OK}, {9, 7, 1, api.OK},
	} {
		b.Tides[0].Height = span(c.height, c.height)
		s := api.TdShip{Sink: c.sink}
		leastIs(t, c, b, s, 0, c.want, c.e)
		firstIs(t, c, b, s, 0, 0, c.want, c.e)
	}
	// More ballast than the least one may be too much.
	b.Tides[0].Height = span(10, 10)
	ashore(t, 2, b, api.TdShip{Sink: 1}, 2)
	ashore(t, 3, b, api.TdShip{Sink: 1}, 3, 0)
	ashore(t, 10, b, api.TdShip{Sink: 1}, 10, 0)
	ashore(t, 11, b, api.TdShip{Sink: 1}, 11)
	// With too wide a range there is none.
	b.Tides[0].Height = span(10, 18)
	leastIs(t, "too wide", b, api.TdShip{Sink: 1}, 0, 0, api.ErrDown)
	b.Tides[0].Height = span(10, 17)
	leastIs(t, "just as wide", b, api.TdShip{Sink: 1}, 0, 10, api.OK)
}

// TestFirstDays is P2.3: tides on one day, days between tides, and behind the last one.
func TestFirstDays(t *testing.T) {
	b := exact(span(0, 1000), span(90, 90), span(3, 3), span(9, 9), span(5, 5))
	for i, day := range []int{5, 5, 9, 9} {
		b.Tides[i].Day = day
	}
	s := api.TdShip{Sink: 1}
	for _, c := range []struct {
		day, tide, ballast int
		e                  api.Errno
	}{{0, 1, 0, api.OK}, {5, 1, 0, api.OK}, {6, 2, 2, api.OK}, {9, 2, 2, api.OK}, {10, 0, 0, api.ErrDown}, {40000, 0, 0, api.ErrDown}} {
		firstIs(t, c, b, s, c.day, c.tide, c.ballast, c.e)
	}
	s.Sink = 0
	firstIs(t, "9 does not do", b, s, 6, 3, 0, api.OK)
	b.Tides[3].Day = 40000
	firstIs(t, "the last day", b, s, 40000, 3, 0, api.OK)
	twelve := make([]api.Span, 12)
	for i := range twelve {
		twelve[i] = span(60+i, 60+i)
	}
	twelve[11] = span(7, 7)
	firstIs(t, "the last of 12", exact(span(0, 1000), twelve...), api.TdShip{Sink: 1}, 0, 11, 0, api.OK)
	ashore(t, "the last of 12", exact(span(0, 1000), twelve...), api.TdShip{Sink: 1}, 0, 11)
	ashore(t, "all of 12", exact(span(0, 20000), twelve...), api.TdShip{Sink: 1}, 0, 0, 1, 2, 3, 4, 5, 6, 7, 8, 9, 10, 11)
	ashore(t, "1", exact(span(0, 1000), span(0, 0)), api.TdShip{}, 0, 0)
}

// TestPullErrors is P2.5: the errors of pulls, in their order.
func TestPullErrors(t *testing.T) {
	b := exact(span(0, 0), make([]api.Span, 12)...)
	s := shipB()
	for i, c := range []struct {
		run   int
		pulls []api.TdPull
		e     api.Errno
	}{
		{0, nil, api.OK},
		{0, []api.TdPull{}, api.OK},
		{11, nil, api.OK},
		{0, []api.TdPull{pull(1, 0), pull(2, 40), pull(3, 1), pull(5, 1), pull(10, 1), pull(11, 1)}, api.OK},
		{0, []api.TdPull{pull(1, 0), pull(2, 40), pull(3, 1), pull(5, 1), pull(9, 1), pull(10, 1), pull(11, 1)}, api.ErrLong},
		{0, make([]api.TdPull, 7), api.ErrLong},
		{0, make([]api.TdPull, 100000), api.ErrLong},
		{0, make([]api.TdPull, 6), api.ErrArg},
		{5, []api.TdPull{pull(5, 0)}, api.ErrArg},
		{5, []api.TdPull{pull(4, 0)}, api.ErrArg},
		{5, []api.TdPull{pull(0, 0)}, api.ErrArg},
		{5, []api.TdPull{pull(6, 0), pull(6, 0)}, api.ErrArg},
		{5, []api.TdPull{pull(7, 0), pull(6, 0)}, api.ErrArg},
		{5, []api.TdPull{pull(7, 0), pull(8, 0), pull(8, 0)}, api.ErrArg},
		{5, []api.TdPull{pull(-1, 41)}, api.ErrNone},
		{5, []api.TdPull{pull(12, 41)}, api.ErrNone},
		{5, []api.TdPull{pull(least, 0)}, api.ErrNone},
		{5, []api.TdPull{pull(greatest, 0)}, api.ErrNone},
		{5, []api.TdPull{pull(5, 41)}, api.ErrRange},
		{5, []api.TdPull{pull(6, -1)}, api.ErrRange},
		{5, []api.TdPull{pull(6, least)}, api.ErrRange},
		{5, []api.TdPull{pull(6, greatest)}, api.ErrRange},
		{5, []api.TdPull{pull(5, 0), pull(12, 0)}, api.ErrArg},
		{5, []api.TdPull{pull(6, 41), pull(12, 0)}, api.ErrRange},
		{5, []api.TdPull{pull(6, 0), pull(12, 0), pull(7, 41)}, api.ErrNone},
	} {
		w, e := tide.Lies(b, s, pull(c.run, 0), c.pulls)
		if e != c.e || e != api.OK && w != span(0, 0) {
			t.Errorf("%d: Lies = %v, %d; want %d", i, w, e, c.e)
		}
	}
}

// TestPulled is P2.5: pulls that move the ship, and such that change nothing.
func TestPulled(t *testing.T) {
	b := exact(span(0, 0), span(70, 84), span(63, 77), span(70, 70), span(84, 91), span(0, 0), span(140, 140), span(133, 210))
	b.Bite = 7
	s := api.TdShip{Sink: 7}
	for i, c := range []struct {
		run   api.TdPull
		pulls []api.TdPull
		want  api.Span
	}{
		{pull(0, 0), nil, span(10000, 12000)},
		{pull(0, 3), nil, span(7000, 9000)},
		{pull(0, 0), []api.TdPull{pull(1, 0)}, span(10000, 12000)}, // just as far
		{pull(0, 0), []api.TdPull{pull(1, 1)}, span(10000, 12000)}, // not as far
		{pull(0, 0), []api.TdPull{pull(2, 0)}, span(11000, 12000)}, // one end alone
		{pull(0, 1), []api.TdPull{pull(2, 1)}, span(10000, 11000)}, // the other one stays
		{pull(0, 0), []api.TdPull{pull(3, 0)}, span(13000, 14000)},
		{pull(0, 0), []api.TdPull{pull(3, 2)}, span(11000, 12000)},
		{pull(0, 0), []api.TdPull{pull(3, 0), pull(4, 0)}, span(13000, 14000)}, // she does not come back
		{pull(0, 0), []api.TdPull{pull(3, 0), pull(5, 9), pull(6, 40)}, span(13000, 14000)},
		{pull(0, 0), []api.TdPull{pull(5, 0), pull(6, 0)}, span(21000, 31000)},
		{pull(0, 0), []api.TdPull{pull(1, 0), pull(2, 0), pull(3, 0), pull(4, 0), pull(5, 0), pull(6, 0)}, span(21000, 31000)},
		{pull(4, 40), nil, span(-40000, -40000)},
		{pull(4, 40), []api.TdPull{pull(5, 40)}, span(-19000, -19000)},
		{pull(0, 40), []api.TdPull{pull(1, 39)}, span(-29000, -27000)},
	} {
		liesAt(t, i, b, s, c.run, c.pulls, c.want, api.OK)
	}
	// The bite is none of the run: she stops where she stops.
	b.Bite = 200
	liesAt(t, "a great bite", b, s, pull(0, 0), nil, span(10000, 12000), api.OK)
	stops(t, "a great bite", b, s, 0, 0, span(10000, 12000))
	// One slope and one draft are true on all tides.
	b = api.TdBeach{Slope: span(10, 20), Marks: span(0, 0), Tides: []api.TdTide{high(0, 90, 95, 0, 0), high(0, 100, 101, -5, -5)}}
	liesAt(t, "below 0", b, api.TdShip{Draft: span(100, 105)}, pull(0, 0), []api.TdPull{pull(1, 0)}, span(-1000, -200), api.OK)
}

// TestTargets is P2.5: targets that are just reached, that the run alone reaches, and that no tide reaches.
func TestTargets(t *testing.T) {
	b := exact(span(0, 0), span(70, 84), span(63, 77), span(84, 91), span(77, 700), span(140, 140))
	b.Bite = 7
	s := api.TdShip{Sink: 7}
	for i, c := range []struct {
		run          api.TdPull
		target, want int
		e            api.Errno
	}{
		{pull(0, 0), 10000, 1, api.OK}, // she lies there as she stopped
		{pull(0, 0), 10001, 2, api.OK},
		{pull(0, 0), 13000, 2, api.OK},
		{pull(0, 0), 13001, 4, api.OK}, // perhaps on 3, but not surely
		{pull(0, 0), 21000, 4, api.OK},
		{pull(0, 0), 21001, 0, api.ErrDown},
		{pull(0, 40), 10000, 1, api.OK}, // the ballast of the run is none of the pull
		{pull(0, 0), least, 1, api.OK},
		{pull(0, 0), greatest, 0, api.ErrDown},
		{pull(2, 0), 13000, 4, api.OK},
		{pull(2, 0), 12000, 3, api.OK},
		{pull(2, 40), 12000, 3, api.OK},
		{pull(3, 0), 21000, 4, api.OK},
		{pull(3, 0), 21001, 0, api.ErrDown},
		{pull(4, 0), least, 0, api.ErrDown},
		{pull(4, 0), 0, 0, api.ErrDown},
	} {
		laterIs(t, i, b, s, c.run, c.target, c.want, c.e)
	}
	laterIs(t, "1 tide", exact(span(0, 0), span(0, 0)), s, pull(0, 0), -5, 0, api.ErrDown)
	twelve := make([]api.Span, 12)
	twelve[11] = span(7, 7)
	laterIs(t, "12 tides", exact(span(0, 0), twelve...), s, pull(0, 0), 1, 11, api.OK)
}

// TestNewMemory is P2.15: the list of Ashore is new.
func TestNewMemory(t *testing.T) {
	b, s := withMarks(beachB(), 0, 100000), shipB()
	l, _ := tide.Ashore(b, s, 0)
	l[0], l[1] = 7, 8
	if m, e := tide.Ashore(b, s, 0); !slices.Equal(m, []int{0, 1}) || e != api.OK {
		t.Errorf("Ashore = %v, %d", m, e)
	}
	if !sameBeaches(b, withMarks(beachB(), 0, 100000)) {
		t.Errorf("the beach is %v", b)
	}
}
