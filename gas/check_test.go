package gas_test

import (
	"strings"
	"testing"

	"orlop/api"
	"orlop/gas"
)

// checks checks that Check returns a part, an index and an error, and the other functions the same error, before all others.
func checks(t *testing.T, what any, s api.GsSpace, part, at int, e api.Errno) {
	t.Helper()
	gotPart, gotAt, got := gas.Check(s)
	if gotPart != part || gotAt != at || got != e {
		t.Errorf("%v: Check = %d, %d, %d; want %d, %d, %d", what, gotPart, gotAt, got, part, at, e)
	}
	if e == api.OK {
		return
	}
	for _, l := range [][]api.GsReading{nil, readings(read(0, -1, 0)), readings(read(61, 0, 251)), make([]api.GsReading, 13)} {
		for _, n := range []int{0, -1, 61} {
			levelIs(t, what, s, l, n, span(0, 0), e)
			untilIs(t, what, s, l, n, 0, e)
			refusalIs(t, what, s, l, n, nil, e)
		}
	}
	for _, n := range []int{0, -1, 251} {
		holdsIs(t, what, s, n, n, n, 0, e)
		fewestIs(t, what, s, n, n, n, n, nil, e)
		fewestIs(t, what, s, 0, 0, 1, 0, nil, e)
	}
}

// TestCheckNumbers is P3.1: the ends of all ranges.
func TestCheckNumbers(t *testing.T) {
	for i, c := range []struct {
		change   func(s *api.GsSpace, n int)
		lo, hi   int
		part, at int
	}{
		{func(s *api.GsSpace, n int) { s.Start = span(n, 200) }, 0, 200, 1, 0},
		{func(s *api.GsSpace, n int) { s.Start = span(0, n) }, 0, 200, 1, 0},
		{func(s *api.GsSpace, n int) { s.Rise = span(n, 20) }, -20, 20, 1, 0},
		{func(s *api.GsSpace, n int) { s.Rise = span(-20, n) }, -20, 20, 1, 0},
		{func(s *api.GsSpace, n int) { s.Blow = span(n, 20) }, -20, 20, 1, 0},
		{func(s *api.GsSpace, n int) { s.Blow = span(-20, n) }, -20, 20, 1, 0},
		{func(s *api.GsSpace, n int) { s.Limit = n }, 0, 200, 1, 0},
		{func(s *api.GsSpace, n int) { s.Blows = []api.Span{span(n, 60)} }, 0, 60, 2, 0},
		{func(s *api.GsSpace, n int) { s.Blows = []api.Span{span(0, n)} }, 0, 60, 2, 0},
		{func(s *api.GsSpace, n int) { s.Blows = []api.Span{span(0, 0), span(n, 60)} }, 1, 60, 2, 1},
		{func(s *api.GsSpace, n int) { s.Blows = []api.Span{span(0, 0), span(1, n)} }, 1, 60, 2, 1},
		{func(s *api.GsSpace, n int) { s.Tools[0].Err = n }, 0, 50, 3, 0},
		{func(s *api.GsSpace, n int) { s.Tools[1].Err = n }, 0, 50, 3, 1},
	} {
		for _, n := range []int{c.lo, (c.lo + c.hi) / 2, c.hi} {
			s := spaceS()
			c.change(&s, n)
			checks(t, []int{i, n}, s, 0, 0, api.OK)
		}
		for _, n := range []int{min(c.lo, 0) - 1, c.hi + 1, least, least + 1, -1 << 32, 1 << 32, 1<<32 + c.hi, greatest - 1, greatest} {
			s := spaceS()
			c.change(&s, n)
			checks(t, []int{i, n}, s, c.part, c.at, api.ErrRange)
		}
	}
}

// TestCheckTurned is P3.1: a Lo that is above its Hi, and minutes that are not above those before.
func TestCheckTurned(t *testing.T) {
	for i, c := range []struct {
		change   func(s *api.GsSpace)
		part, at int
		e        api.Errno
	}{
		{func(s *api.GsSpace) { s.Start = span(7, 7) }, 0, 0, api.OK},
		{func(s *api.GsSpace) { s.Start = span(8, 7) }, 1, 0, api.ErrArg},
		{func(s *api.GsSpace) { s.Rise = span(-7, -7) }, 0, 0, api.OK},
		{func(s *api.GsSpace) { s.Rise = span(-6, -7) }, 1, 0, api.ErrArg},
		{func(s *api.GsSpace) { s.Blow = span(20, 20) }, 0, 0, api.OK},
		{func(s *api.GsSpace) { s.Blow = span(20, -20) }, 1, 0, api.ErrArg},
		{func(s *api.GsSpace) { s.Blows = nil }, 0, 0, api.OK},
		{func(s *api.GsSpace) { s.Blows = []api.Span{} }, 0, 0, api.OK},
		{func(s *api.GsSpace) { s.Blows = []api.Span{span(60, 60)} }, 0, 0, api.OK},
		{func(s *api.GsSpace) { s.Blows = []api.Span{span(8, 7)} }, 2, 0, api.ErrArg},
		{func(s *api.GsSpace) { s.Blows = []api.Span{span(3, 5), span(6, 6)} }, 0, 0, api.OK},
		{func(s *api.GsSpace) { s.Blows = []api.Span{span(3, 5), span(5, 6)} }, 2, 1, api.ErrArg},
		{func(s *api.GsSpace) { s.Blows = []api.Span{span(3, 5), span(1, 2)} }, 2, 1, api.ErrArg},
		{func(s *api.GsSpace) { s.Blows = []api.Span{span(3, 5), span(7, 6)} }, 2, 1, api.ErrArg},
		{func(s *api.GsSpace) { s.Blows = []api.Span{span(0, 0), span(5, 6), span(1, 2)} }, 2, 2, api.ErrArg},
		{func(s *api.GsSpace) { s.Blows = []api.Span{span(0, 0), span(1, 1), span(2, 2), span(3, 60)} }, 0, 0, api.OK},
		{func(s *api.GsSpace) { s.Blows = []api.Span{span(0, 0), span(1, 1), span(2, 2), span(2, 60)} }, 2, 3, api.ErrArg},
	} {
		s := spaceS()
		c.change(&s)
		checks(t, i, s, c.part, c.at, c.e)
	}
}

// TestCheckTools is P3.1: how many instruments there are, and their names.
func TestCheckTools(t *testing.T) {
	tools := func(names ...string) (l []api.GsTool) {
		for _, name := range names {
			l = append(l, api.GsTool{Name: name, Err: 50})
		}
		return l
	}
	for i, c := range []struct {
		tools []api.GsTool
		at    int
		e     api.Errno
	}{
		{nil, 0, api.ErrLong},
		{[]api.GsTool{}, 0, api.ErrLong},
		{tools("a"), 0, api.OK},
		{tools("a", "b", "a1"), 0, api.OK},
		{tools("a", "b", "c", "d"), 0, api.ErrLong},
		{tools("", "", "", ""), 0, api.ErrLong},
		{make([]api.GsTool, 100000), 0, api.ErrLong},
		{tools("a", "a", "c"), 1, api.ErrTwice},
		{tools("a", "b", "a"), 2, api.ErrTwice},
		{tools("a", "b", "b"), 2, api.ErrTwice},
		{tools("a", "", "a"), 1, api.ErrForm},
		{tools("", ""), 0, api.ErrForm},
		{tools("a", "A"), 1, api.ErrForm},
		{tools("1a"), 0, api.ErrForm},
		{tools("a b"), 0, api.ErrForm},
		{tools("ä"), 0, api.ErrForm},
		{tools(strings.Repeat("z", 16)), 0, api.OK},
		{tools(strings.Repeat("z", 17)), 0, api.ErrForm},
		{tools(strings.Repeat("z", 1<<20)), 0, api.ErrForm},
	} {
		s := spaceS()
		s.Tools = c.tools
		part := 3
		if c.e == api.OK {
			part = 0
		}
		checks(t, i, s, part, c.at, c.e)
	}
}

// TestCheckOrder is P3.1 and R1: of several errors the first one in the order of the chapter.
func TestCheckOrder(t *testing.T) {
	s := spaceS()
	s.Tools = []api.GsTool{{Name: "a", Err: 51}, {Name: "", Err: 51}}
	checks(t, "the first instrument", s, 3, 0, api.ErrRange)
	s.Tools[0].Err = 0
	checks(t, "no name, before Err", s, 3, 1, api.ErrForm)
	s.Tools[1].Name = "a"
	checks(t, "twice, before Err", s, 3, 1, api.ErrTwice)
	s.Tools[1].Name = "b"
	checks(t, "Err", s, 3, 1, api.ErrRange)
	s.Tools = nil
	s.Blows = []api.Span{span(9, 8), span(61, 0)}
	checks(t, "the first blow", s, 2, 0, api.ErrArg)
	s.Blows[0] = span(7, 8)
	checks(t, "a range, before a turned one", s, 2, 1, api.ErrRange)
	s.Blows[1] = span(8, -1)
	checks(t, "the other end", s, 2, 1, api.ErrRange)
	s.Blows[1] = span(8, 9)
	checks(t, "not above", s, 2, 1, api.ErrArg)
	s.Blows = make([]api.Span, 5)
	s.Blows[0] = span(-1, 61)
	checks(t, "5 blows", s, 2, 0, api.ErrLong)
	s.Blow = span(2, 1)
	checks(t, "turned, before the blows", s, 1, 0, api.ErrArg)
	s.Start = span(2, 1)
	s.Limit = 201
	checks(t, "a range, before all turned ones", s, 1, 0, api.ErrRange)
	s.Limit, s.Blow = 200, span(0, 21)
	checks(t, "a range of the last span", s, 1, 0, api.ErrRange)
}

// TestReadingErrors is the error of the readings, in its order, then that of the minute, then ErrDown.
func TestReadingErrors(t *testing.T) {
	full := make([]api.GsReading, 12)
	for i, c := range []struct {
		l      []api.GsReading
		minute int
		e      api.Errno
	}{
		{nil, 0, api.OK},
		{[]api.GsReading{}, 60, api.OK},
		{nil, -1, api.ErrRange},
		{nil, 61, api.ErrRange},
		{nil, least, api.ErrRange},
		{nil, greatest, api.ErrRange},
		{nil, 1 << 32, api.ErrRange},
		{full, 0, api.OK},
		{make([]api.GsReading, 13), 0, api.ErrLong},
		{make([]api.GsReading, 13), -1, api.ErrLong},
		{make([]api.GsReading, 100000), 0, api.ErrLong},
		{append(readings(read(61, -1, 251)), full...), 0, api.ErrLong},
		{readings(read(0, 0, 0)), 0, api.OK},
		{readings(read(0, 2, 0)), 0, api.ErrNone},
		{readings(read(0, -1, 0)), 0, api.ErrNone},
		{readings(read(0, 3, 0)), 0, api.ErrNone},
		{readings(read(0, least, 0)), 0, api.ErrNone},
		{readings(read(0, greatest, 0)), 0, api.ErrNone},
		{readings(read(0, 1<<32, 0)), 0, api.ErrNone},
		{readings(read(61, 2, 251)), 61, api.ErrNone},
		{readings(read(61, 0, 0)), 0, api.ErrRange},
		{readings(read(-1, 0, 0)), 0, api.ErrRange},
		{readings(read(least, 0, 0)), 0, api.ErrRange},
		{readings(read(greatest, 0, 0)), 0, api.ErrRange},
		{readings(read(5, 0, -50)), 0, api.OK},
		{readings(read(5, 0, -51)), 0, api.ErrRange},
		{readings(read(5, 0, 250)), 0, api.OK},
		{readings(read(5, 0, 251)), 0, api.ErrRange},
		{readings(read(5, 0, least)), 0, api.ErrRange},
		{readings(read(5, 0, greatest)), 0, api.ErrRange},
		{readings(read(5, 0, 0), read(5, 0, 251), read(0, 2, 0)), 0, api.ErrRange}, // the first one with an error
		{readings(read(5, 0, 0), read(0, 2, 0), read(5, 0, 251)), 0, api.ErrNone},
		{readings(read(60, 0, 251)), 0, api.ErrRange}, // though it is of a later minute
		{readings(read(0, 0, 46)), 0, api.ErrDown},
		{readings(read(0, 0, 46)), -1, api.ErrRange},
		{readings(read(0, 0, 46), read(60, 2, 0)), 0, api.ErrNone},
		{readings(read(0, 0, 45)), 0, api.OK},
		{readings(read(0, 0, -5)), 0, api.OK},
		{readings(read(0, 0, -6)), 0, api.ErrDown},
		{readings(read(5, 0, 250)), 5, api.ErrDown},
		{readings(read(5, 0, 250)), 60, api.ErrDown},
		{readings(read(0, 0, 0), read(0, 1, 8)), 0, api.ErrDown}, // each alone has truths
		{readings(read(0, 0, 0), read(0, 1, 7)), 0, api.OK},
	} {
		s := spaceS()
		s.Limit = 200
		none := c.e
		if none == api.OK {
			none = api.ErrNone
		}
		if w, e := gas.Level(s, c.l, c.minute); e != c.e || e != api.OK && w != span(0, 0) {
			t.Errorf("%d: Level = %v, %d; want %d", i, w, e, c.e)
		}
		if n, e := gas.Until(s, c.l, c.minute); e != c.e || e != api.OK && n != 0 {
			t.Errorf("%d: Until = %d, %d; want %d", i, n, e, c.e)
		}
		refusalIs(t, i, s, c.l, c.minute, nil, none)
	}
}

// TestArguments is P3.4 and P3.5: the errors of an instrument, of what it shows and of minutes, in their order.
func TestArguments(t *testing.T) {
	s := spaceS()
	for _, tool := range []int{-1, 2, 3, least, least + 1, 1 << 32, -1 << 32, greatest} {
		for _, n := range []int{0, -51, 251, 61, -1} {
			holdsIs(t, tool, s, tool, n, n, 0, api.ErrNone)
			fewestIs(t, tool, s, tool, n, n, n, nil, api.ErrNone)
			fewestIs(t, tool, s, tool, n, 5, 4, nil, api.ErrNone)
		}
	}
	for _, shown := range []int{-51, 251, least, least + 1, 1 << 32, -1 << 32, 1<<32 + 1, greatest} {
		holdsIs(t, shown, s, 0, shown, 0, 0, api.ErrRange)
		fewestIs(t, shown, s, 0, shown, 0, 5, nil, api.ErrRange)
		fewestIs(t, shown, s, 0, shown, 5, 0, nil, api.ErrRange)
	}
	for _, minute := range []int{-1, 61, least, least + 1, 1 << 32, -1 << 32, greatest} {
		for _, shown := range []int{0, 250} {
			holdsIs(t, minute, s, 0, shown, minute, 0, api.ErrRange)
			fewestIs(t, minute, s, 0, shown, minute, 60, nil, api.ErrRange)
			fewestIs(t, minute, s, 0, shown, minute, 0, nil, api.ErrRange)
			fewestIs(t, minute, s, 0, shown, 0, minute, nil, api.ErrRange)
			fewestIs(t, minute, s, 0, shown, 60, minute, nil, api.ErrRange)
			fewestIs(t, minute, s, 0, shown, minute, minute, nil, api.ErrRange)
		}
	}
	fewestIs(t, "turned", s, 0, 0, 21, 20, nil, api.ErrArg)
	fewestIs(t, "turned, before what does not hold", s, 0, 250, 60, 0, nil, api.ErrArg)
	fewestIs(t, "does not hold", s, 0, 250, 60, 60, nil, api.ErrDown)
	holdsIs(t, "does not hold", s, 0, 250, 60, -1, api.OK)
	holdsIs(t, "the least that is shown", s, 1, -50, 60, -1, api.OK)
	fewestIs(t, "the least that is shown", s, 1, -50, 0, 0, nil, api.ErrDown)
}
