package tide_test

import (
	"testing"

	"orlop/api"
	"orlop/tide"
)

// checks that Check returns a part, an index and an error, and the other functions the same error, before all others.
func checks(t *testing.T, what any, b api.TdBeach, s api.TdShip, part, at int, e api.Errno) {
	t.Helper()
	gotPart, gotAt, got := tide.Check(b, s)
	if gotPart != part || gotAt != at || got != e {
		t.Errorf("%v: Check = %d, %d, %d; want %d, %d, %d", what, gotPart, gotAt, got, part, at, e)
	}
	if e == api.OK {
		return
	}
	for _, n := range []int{0, -1} {
		if w, f := tide.Stops(b, s, n, n); w != span(0, 0) || f != e {
			t.Errorf("%v: Stops = %v, %d", what, w, f)
		}
		if l, f := tide.Ashore(b, s, n); l != nil || f != e {
			t.Errorf("%v: Ashore = %v, %d", what, l, f)
		}
		leastIs(t, what, b, s, n, 0, e)
		firstIs(t, what, b, s, n, 0, 0, e)
		missesAt(t, what, b, s, n, n, api.TdTruth{}, 0, e)
		liesAt(t, what, b, s, pull(n, n), nil, span(0, 0), e)
		liesAt(t, what, b, s, pull(n, n), make([]api.TdPull, 7), span(0, 0), e)
		laterIs(t, what, b, s, pull(n, n), 0, 0, e)
	}
}

// TestCheckNumbers is P2.1: the ends of all ranges.
func TestCheckNumbers(t *testing.T) {
	for i, c := range []struct {
		change   func(b *api.TdBeach, s *api.TdShip, n int)
		lo, hi   int
		part, at int
	}{
		{func(b *api.TdBeach, s *api.TdShip, n int) { b.Slope = span(n, 200) }, 1, 200, 1, 0},
		{func(b *api.TdBeach, s *api.TdShip, n int) { b.Slope = span(1, n) }, 1, 200, 1, 0},
		{func(b *api.TdBeach, s *api.TdShip, n int) { b.Marks = span(n, 2000000) }, -2000000, 2000000, 1, 0},
		{func(b *api.TdBeach, s *api.TdShip, n int) { b.Marks = span(-2000000, n) }, -2000000, 2000000, 1, 0},
		{func(b *api.TdBeach, s *api.TdShip, n int) { b.Bite = n }, 0, 200, 1, 0},
		{func(b *api.TdBeach, s *api.TdShip, n int) { b.Tides[0].Day, b.Tides[1].Day = n, 40000 }, 0, 40000, 2, 0},
		{func(b *api.TdBeach, s *api.TdShip, n int) { b.Tides[0].Day, b.Tides[1].Day = 0, n }, 0, 40000, 2, 1},
		{func(b *api.TdBeach, s *api.TdShip, n int) { b.Tides[0].Height = span(n, 1500) }, 0, 1500, 2, 0},
		{func(b *api.TdBeach, s *api.TdShip, n int) { b.Tides[1].Height = span(0, n) }, 0, 1500, 2, 1},
		{func(b *api.TdBeach, s *api.TdShip, n int) { b.Tides[1].Wind = span(n, 200) }, -200, 200, 2, 1},
		{func(b *api.TdBeach, s *api.TdShip, n int) { b.Tides[0].Wind = span(-200, n) }, -200, 200, 2, 0},
		{func(b *api.TdBeach, s *api.TdShip, n int) { s.Draft = span(n, 1500) }, 0, 1500, 3, 0},
		{func(b *api.TdBeach, s *api.TdShip, n int) { s.Draft = span(0, n) }, 0, 1500, 3, 0},
		{func(b *api.TdBeach, s *api.TdShip, n int) { s.Sink = n }, 0, 50, 3, 0},
	} {
		for _, n := range []int{c.lo, (c.lo + c.hi) / 2, c.hi} {
			b, s := beachB(), shipB()
			c.change(&b, &s, n)
			checks(t, i, b, s, 0, 0, api.OK)
		}
		for _, n := range []int{c.lo - 1, c.hi + 1, least, least + 1, -1 << 32, 1 << 32, 1<<32 + c.lo, greatest - 1, greatest} {
			b, s := beachB(), shipB()
			c.change(&b, &s, n)
			checks(t, []int{i, n}, b, s, c.part, c.at, api.ErrRange)
		}
	}
}

// TestCheckTurned is P2.1: a Lo that is above its Hi, and days.
func TestCheckTurned(t *testing.T) {
	for i, c := range []struct {
		change   func(b *api.TdBeach, s *api.TdShip)
		part, at int
		e        api.Errno
	}{
		{func(b *api.TdBeach, s *api.TdShip) { b.Slope = span(25, 25) }, 0, 0, api.OK},
		{func(b *api.TdBeach, s *api.TdShip) { b.Slope = span(26, 25) }, 1, 0, api.ErrArg},
		{func(b *api.TdBeach, s *api.TdShip) { b.Marks = span(-7, -7) }, 0, 0, api.OK},
		{func(b *api.TdBeach, s *api.TdShip) { b.Marks = span(-6, -7) }, 1, 0, api.ErrArg},
		{func(b *api.TdBeach, s *api.TdShip) { b.Tides[1].Height = span(560, 560) }, 0, 0, api.OK},
		{func(b *api.TdBeach, s *api.TdShip) { b.Tides[1].Height = span(560, 559) }, 2, 1, api.ErrArg},
		{func(b *api.TdBeach, s *api.TdShip) { b.Tides[0].Wind = span(20, 20) }, 0, 0, api.OK},
		{func(b *api.TdBeach, s *api.TdShip) { b.Tides[0].Wind = span(21, 20) }, 2, 0, api.ErrArg},
		{func(b *api.TdBeach, s *api.TdShip) { b.Tides[1].Day = 3 }, 0, 0, api.OK},
		{func(b *api.TdBeach, s *api.TdShip) { b.Tides[1].Day = 2 }, 2, 1, api.ErrArg},
		{func(b *api.TdBeach, s *api.TdShip) { b.Tides[0].Day = 18 }, 2, 1, api.ErrArg},
		{func(b *api.TdBeach, s *api.TdShip) { s.Draft = span(300, 300) }, 0, 0, api.OK},
		{func(b *api.TdBeach, s *api.TdShip) { s.Draft = span(300, 299) }, 3, 0, api.ErrArg},
	} {
		b, s := beachB(), shipB()
		c.change(&b, &s)
		checks(t, i, b, s, c.part, c.at, c.e)
	}
}

// TestCheckInOrder is P2.1: all errors are repaired, one after the other.
func TestCheckInOrder(t *testing.T) {
	b := api.TdBeach{Slope: span(0, -1), Marks: span(9, 8), Bite: 201}
	s := api.TdShip{Draft: span(20, 1501), Sink: 51}
	for i, c := range []struct {
		change   func()
		part, at int
		e        api.Errno
	}{
		{func() {}, 1, 0, api.ErrRange},
		{func() { b.Slope = span(9, 8) }, 1, 0, api.ErrRange},
		{func() { b.Bite = 200 }, 1, 0, api.ErrArg},
		{func() { b.Slope = span(8, 9) }, 1, 0, api.ErrArg},
		{func() { b.Marks = span(8, 9) }, 2, 0, api.ErrLong},
		{func() { b.Tides = []api.TdTide{} }, 2, 0, api.ErrLong},
		{func() { b.Tides = make([]api.TdTide, 13); b.Tides[0].Day = -1 }, 2, 0, api.ErrLong},
		{func() { b.Tides = []api.TdTide{high(7, 8, 7, 9, 8), high(6, 8, 7, 9, 201)} }, 2, 0, api.ErrArg},
		{func() { b.Tides[0].Wind = span(8, 9) }, 2, 0, api.ErrArg},
		{func() { b.Tides[0].Height = span(7, 8) }, 2, 1, api.ErrRange},
		{func() { b.Tides[1].Wind = span(9, 8) }, 2, 1, api.ErrArg},
		{func() { b.Tides[1].Wind = span(8, 9) }, 2, 1, api.ErrArg},
		{func() { b.Tides[1].Height = span(7, 8) }, 2, 1, api.ErrArg},
		{func() { b.Tides[1].Day = 7 }, 3, 0, api.ErrRange},
		{func() { s.Draft = span(20, 19) }, 3, 0, api.ErrRange},
		{func() { s.Sink = 50 }, 3, 0, api.ErrArg},
		{func() { s.Draft = span(19, 20) }, 0, 0, api.OK},
	} {
		c.change()
		checks(t, i, b, s, c.part, c.at, c.e)
	}
}

// TestCheckFirstTide is P2.1: the first tide with an error decides, whichever error it is.
func TestCheckFirstTide(t *testing.T) {
	b := beachB()
	b.Tides = make([]api.TdTide, api.MaxTdTides)
	checks(t, "12 tides", b, shipB(), 0, 0, api.OK)
	b.Tides[11].Wind.Lo = -201
	checks(t, "the last tide", b, shipB(), 2, 11, api.ErrRange)
	b.Tides[4].Day = 1
	checks(t, "the tide behind a later day", b, shipB(), 2, 5, api.ErrArg)
	b.Tides[3].Day = 40001
	checks(t, "a day beyond all", b, shipB(), 2, 3, api.ErrRange)
	b.Tides[0].Height.Lo = 1
	checks(t, "the first tide", b, shipB(), 2, 0, api.ErrArg)
	b.Tides = b.Tides[1:2]
	checks(t, "1 tide", b, shipB(), 0, 0, api.OK)
	b.Tides = append(b.Tides, high(5, 0, 0, 0, 0), high(7, 0, 0, 0, 0), high(6, 0, 0, 0, 0))
	checks(t, "before the tide before, though not before the first", b, shipB(), 2, 3, api.ErrArg)
}
