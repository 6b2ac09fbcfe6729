package gas_test

import (
	"slices"
	"testing"

	"orlop/api"
	"orlop/gas"
)

// run is the numbers from one to another one, each more than the one before by a step.
func run(from, to, step int) []int {
	var l []int
	for n := from; n != to+step; n += step {
		l = append(l, n)
	}
	return l
}

// TestExamples is the table of the chapter.
func TestExamples(t *testing.T) {
	s := spaceS()
	levelIs(t, "at 0", s, nil, 0, span(0, 40), api.OK)
	levelIs(t, "at 10", s, nil, 10, span(10, 70), api.OK)
	levelIs(t, "at 20", s, nil, 20, span(0, 30), api.OK)
	six, both := readings(read(20, fresh, 6)), readings(read(20, fresh, 6), read(20, old, 1))
	levelIs(t, "6", s, six, 20, span(4, 8), api.OK)
	levelIs(t, "6 and 1", s, both, 20, span(4, 6), api.OK)
	untilIs(t, "6", s, six, 20, 20, api.OK)
	untilIs(t, "2", s, readings(read(20, fresh, 2)), 20, 22, api.OK)
	untilIs(t, "12", s, readings(read(20, fresh, 12)), 20, -1, api.OK)
	want := append(run(21, 51, 3), run(47, 11, -4)...)
	refusalIs(t, "12", s, readings(read(20, fresh, 12)), 20, want, api.OK)
	refusalIs(t, "6", s, six, 20, nil, api.ErrNone)
	holdsIs(t, "2 at 20", s, fresh, 2, 20, 22, api.OK)
	holdsIs(t, "2 at 10", s, fresh, 2, 10, 23, api.OK)
	holdsIs(t, "9 at 20", s, fresh, 9, 20, -1, api.OK)
	fewestIs(t, "2", s, fresh, 2, 20, 30, []int{20, 22, 25, 28}, api.OK)
	fewestIs(t, "9", s, fresh, 9, 20, 30, nil, api.ErrDown)
}

// TestHeld is P3.2: levels that are held at 0 and at MaxGsLevel go on from there.
func TestHeld(t *testing.T) {
	for i, c := range []struct {
		s      api.GsSpace
		minute int
		want   int
	}{
		{exact(0, -20, 0, 10), 60, 0},
		{exact(200, 20, 0, 10), 60, 200},
		{exact(3, 4, -20, 10, span(0, 0)), 1, 0},
		{exact(3, 4, -20, 10, span(0, 0)), 2, 4},
		{exact(3, 4, -20, 10, span(0, 0)), 3, 8},
		{exact(195, 20, -20, 10, span(1, 1)), 1, 200},
		{exact(195, 20, -20, 10, span(1, 1)), 2, 180},
		{exact(195, 20, -20, 10, span(1, 1)), 3, 200},
		{exact(19, 20, -20, 10, span(0, 0)), 1, 0},
		{exact(20, 20, -20, 10, span(0, 0)), 1, 0},
		{exact(21, 20, -20, 10, span(0, 0)), 1, 1},
		{exact(179, 20, 0, 10), 1, 199},
		{exact(180, 20, 0, 10), 1, 200},
		{exact(181, 20, 0, 10), 1, 200},
		{exact(200, 0, -20, 10, span(0, 9)), 10, 0},
		{exact(0, 20, 0, 10), 10, 200},
		{exact(200, 0, -3, 10, span(0, 59)), 60, 20},
		{exact(200, 0, -3, 10, span(0, 60)), 60, 20},
		{exact(0, 3, 0, 10), 60, 180},
	} {
		levelIs(t, i, c.s, nil, c.minute, span(c.want, c.want), api.OK)
	}
	// One end alone is held.
	s := exact(0, 0, 0, 10)
	s.Start, s.Rise = span(5, 15), span(-9, -7)
	levelIs(t, "both ends", s, nil, 1, span(0, 8), api.OK)
	levelIs(t, "both ends", s, nil, 2, span(0, 1), api.OK)
	levelIs(t, "both ends", s, nil, 3, span(0, 0), api.OK)
	s.Start, s.Rise = span(185, 195), span(7, 9)
	levelIs(t, "both ends", s, nil, 1, span(192, 200), api.OK)
	levelIs(t, "both ends", s, nil, 2, span(199, 200), api.OK)
	levelIs(t, "both ends", s, nil, 3, span(200, 200), api.OK)
}

// TestBlows is P3.2: from which minute to which one a blower changes the level.
func TestBlows(t *testing.T) {
	none := exact(50, 1, -2, 60)
	one := exact(50, 1, -2, 60, span(3, 5))
	four := exact(50, 1, -2, 60, span(0, 0), span(1, 2), span(4, 4), span(59, 60))
	for _, c := range []struct{ minute, none, one, four int }{
		{0, 50, 50, 50}, {1, 51, 51, 48}, {2, 52, 52, 46}, {3, 53, 53, 44}, {4, 54, 51, 45}, {5, 55, 49, 43}, {6, 56, 47, 44},
		{7, 57, 48, 45}, {59, 109, 100, 97}, {60, 110, 101, 95},
	} {
		levelIs(t, c, none, nil, c.minute, span(c.none, c.none), api.OK)
		levelIs(t, c, one, nil, c.minute, span(c.one, c.one), api.OK)
		levelIs(t, c, four, nil, c.minute, span(c.four, c.four), api.OK)
	}
	untilIs(t, "none", none, nil, 0, 10, api.OK)
	untilIs(t, "one", one, nil, 0, 19, api.OK)
	untilIs(t, "four", four, nil, 0, 22, api.OK)
	holdsIs(t, "none", none, 0, 60, 60, 60, api.OK)
	holdsIs(t, "four", four, 0, 60, 58, 58, api.OK)
	holdsIs(t, "four", four, 0, 60, 59, 60, api.OK)
}

// TestUntil is P3.2: a torch that burns to the end, for one minute, and one that may not be lit.
func TestUntil(t *testing.T) {
	for i, c := range []struct {
		s            api.GsSpace
		minute, want int
	}{
		{exact(0, 0, 0, 0), 0, 60},
		{exact(0, 0, 0, 0), 60, 60},
		{exact(1, 0, 0, 0), 60, -1},
		{exact(200, 20, 0, 200), 0, 60},
		{exact(200, 0, 0, 199), 0, -1},
		{exact(10, 1, 0, 10), 0, 0},
		{exact(11, -1, 0, 10), 0, -1},
		{exact(11, -1, 0, 10), 1, 60},
		{exact(10, 1, -9, 10, span(1, 1)), 0, 0}, // at 1 it is 11, and at 2 only 2
		{exact(10, 1, -9, 10, span(1, 1)), 1, -1},
		{exact(10, 1, -9, 10, span(1, 1)), 2, 10},
		{exact(0, 1, 0, 59), 0, 59},
		{exact(0, 1, 0, 59), 60, -1},
		{exact(0, 1, 0, 60), 0, 60},
	} {
		untilIs(t, i, c.s, nil, c.minute, c.want, api.OK)
		if c.want >= 0 {
			refusalIs(t, i, c.s, nil, c.minute, nil, api.ErrNone)
		}
	}
}

// TestReadings is P3.2: readings of the minute, of one before it and of later ones, and several of one minute.
func TestReadings(t *testing.T) {
	s := spaceS()
	s.Tools = append(s.Tools, api.GsTool{Name: "a3", Err: 0})
	for i, c := range []struct {
		l      []api.GsReading
		minute int
		want   api.Span
		e      api.Errno
	}{
		{readings(read(0, fresh, 20)), 0, span(18, 22), api.OK},
		{readings(read(0, fresh, 20)), 1, span(19, 25), api.OK},
		{readings(read(0, fresh, 20)), 10, span(28, 52), api.OK},
		{readings(read(0, fresh, 20)), 20, span(0, 12), api.OK},
		{readings(read(1, fresh, 20)), 0, span(0, 40), api.OK},
		{readings(read(1, fresh, 250)), 0, span(0, 40), api.OK},
		{readings(read(1, fresh, 250)), 1, span(0, 0), api.ErrDown},
		{readings(read(1, fresh, 250)), 2, span(0, 0), api.ErrDown},
		{readings(read(60, fresh, 250)), 59, span(39, 147), api.OK},
		{readings(read(60, fresh, 100)), 60, span(98, 102), api.OK},
		{readings(read(60, fresh, 153)), 60, span(0, 0), api.ErrDown},
		{readings(read(60, fresh, 152)), 60, span(150, 150), api.OK},
		{readings(read(60, fresh, 38)), 60, span(40, 40), api.OK},
		{readings(read(60, fresh, 37)), 60, span(0, 0), api.ErrDown},
		{readings(read(5, old, 20), read(5, fresh, 26), read(5, 2, 25)), 5, span(25, 25), api.OK},
		{readings(read(5, old, 20), read(5, fresh, 26), read(5, 2, 25)), 6, span(26, 28), api.OK},
		{readings(read(5, old, 20), read(5, fresh, 26), read(5, 2, 26)), 5, span(0, 0), api.ErrDown},
		{readings(read(5, old, 20), read(5, fresh, 26)), 5, span(24, 25), api.OK},
		{readings(read(5, old, 20), read(5, old, 25), read(5, old, 30)), 5, span(25, 25), api.OK},
		{readings(read(5, old, 20), read(5, old, 31)), 5, span(0, 0), api.ErrDown},
		{readings(read(9, old, 40), read(3, 2, 30)), 9, span(36, 45), api.OK},
		{readings(read(3, 2, 30), read(9, old, 40)), 9, span(36, 45), api.OK},
		{readings(read(3, 2, 30), read(9, old, 54)), 9, span(0, 0), api.ErrDown},
		{readings(read(3, 2, 30), read(9, old, 53)), 9, span(48, 48), api.OK},
		{readings(read(3, 2, 30), read(9, old, 54)), 8, span(35, 45), api.OK},
		{readings(read(0, 2, 0), read(1, 2, 1), read(2, 2, 2), read(3, 2, 3), read(4, 2, 4), read(5, 2, 5), read(6, 2, 8), read(7, 2, 11), read(8, 2, 12), read(9, 2, 13), read(10, 2, 14), read(11, 2, 8)), 12, span(2, 4), api.OK},
		{readings(read(20, 2, 0)), 20, span(0, 0), api.OK},
		{readings(read(20, 2, -1)), 20, span(0, 0), api.ErrDown},
		{readings(read(20, fresh, -2)), 20, span(0, 0), api.OK},
		{readings(read(20, fresh, -3)), 20, span(0, 0), api.ErrDown}, // a level below 0 is none
		{readings(read(20, fresh, -50)), 20, span(0, 0), api.ErrDown},
	} {
		levelIs(t, i, s, c.l, c.minute, c.want, c.e)
	}
	high := exact(200, 0, 0, 200)
	levelIs(t, "200", high, readings(read(9, 0, 200)), 9, span(200, 200), api.OK)
	levelIs(t, "201", high, readings(read(9, 0, 201)), 9, span(0, 0), api.ErrDown)
	high.Tools[0].Err = 50
	levelIs(t, "250", high, readings(read(9, 0, 250)), 9, span(200, 200), api.OK)
	levelIs(t, "149", high, readings(read(9, 0, 149)), 9, span(0, 0), api.ErrDown)
	untilIs(t, "250", high, readings(read(9, 0, 250)), 9, 60, api.OK)
}

// TestRefusal is P3.3: the first of several truths, such that are held at an end, and those that readings leave.
func TestRefusal(t *testing.T) {
	wide := exact(0, 0, 0, 199)
	wide.Start, wide.Rise = span(0, 200), span(0, 20)
	low := exact(0, 3, -5, 2, span(0, 0))
	low.Start = span(0, 10)
	either := exact(0, 0, 0, 5)
	either.Start, either.Rise = span(0, 9), span(-2, 2)
	for i, c := range []struct {
		s      api.GsSpace
		l      []api.GsReading
		minute int
		want   []int
		e      api.Errno
	}{
		{wide, nil, 0, []int{200}, api.OK},
		{wide, nil, 1, []int{180, 200}, api.OK},
		{wide, nil, 2, []int{160, 180, 200}, api.OK},
		{wide, nil, 10, run(0, 200, 20), api.OK},
		{wide, nil, 11, append([]int{0}, run(0, 200, 20)...), api.OK},
		{wide, readings(read(1, 0, 190)), 2, []int{170, 190, 200}, api.OK},
		{wide, readings(read(1, 0, 179)), 2, nil, api.ErrNone},
		{wide, readings(read(0, 0, 195)), 2, []int{195, 195, 200}, api.OK},
		{wide, readings(read(3, 0, 0)), 2, []int{160, 180, 200}, api.OK}, // of a later minute
		{low, nil, 0, []int{3}, api.OK},
		{low, nil, 1, []int{8, 3}, api.OK},
		{low, nil, 2, []int{0, 0, 3}, api.OK}, // 0 to 5 are all 0 in a minute
		{low, readings(read(1, 0, 0)), 2, []int{0, 0, 3}, api.OK},
		{low, readings(read(1, 0, 1)), 2, []int{6, 1, 4}, api.OK},
		{low, readings(read(2, 0, 4)), 2, []int{6, 1, 4}, api.OK},
		{low, readings(read(2, 0, 4)), 4, []int{6, 1, 4, 7, 10}, api.OK},
		{low, readings(read(2, 0, 9)), 2, nil, api.ErrDown},
		{either, nil, 0, []int{6}, api.OK},
		{either, nil, 1, []int{4, 6}, api.OK},
		{either, nil, 3, []int{0, 2, 4, 6}, api.OK},
		{either, nil, 5, []int{0, 0, 0, 2, 4, 6}, api.OK},
		{either, readings(read(3, 0, 3)), 5, []int{0, 0, 1, 3, 4, 6}, api.OK},
		{either, readings(read(3, 0, 0), read(5, 0, 4)), 6, []int{0, 0, 0, 0, 2, 4, 6}, api.OK},
		{either, readings(read(3, 0, 0), read(5, 0, 3)), 6, nil, api.ErrNone},
		{either, readings(read(2, 0, 9)), 3, []int{5, 7, 9, 7}, api.OK},
		{either, readings(read(2, 0, 9), read(3, 0, 10)), 3, []int{5, 7, 9, 10}, api.OK},
		{exact(11, 0, 0, 10), nil, 60, slices.Repeat([]int{11}, 61), api.OK},
		{exact(10, 0, 0, 10), nil, 60, nil, api.ErrNone},
		{exact(200, 20, 0, 200), nil, 60, nil, api.ErrNone},
	} {
		refusalIs(t, i, c.s, c.l, c.minute, c.want, c.e)
	}
}

// TestHolds is P3.4: sums below 0 and above all levels, levels that fall, and the first and the last minute.
func TestHolds(t *testing.T) {
	s := spaceS()
	for i, c := range []struct{ shown, minute, want int }{
		{-2, 20, 23}, {-3, 20, -1}, {-3, 60, -1}, {-50, 20, -1}, {-2, 60, 60}, {-2, 57, 60}, {-2, 58, 60},
		{-2, 56, 59}, {-2, 0, 3}, {8, 60, 60}, {8, 59, 59}, {9, 60, -1}, {8, 9, 9}, {8, 10, 23}, {9, 10, -1}, {8, 17, 23}, {8, 18, 22}, {8, 19, 21},
		{250, 0, -1}, {5, 0, 1}, {4, 0, 1}, {2, 0, 2},
	} {
		holdsIs(t, i, s, fresh, c.shown, c.minute, c.want, api.OK)
	}
	holdsIs(t, "of old", s, old, -5, 20, 23, api.OK)
	holdsIs(t, "of old", s, old, -6, 20, -1, api.OK)
	holdsIs(t, "of old", s, old, 5, 20, 20, api.OK)
	// What is above all levels is the greatest one.
	s.Limit = 200
	holdsIs(t, "all levels", s, old, 250, 0, 60, api.OK)
	s.Limit, s.Rise = 199, span(-20, -1)
	holdsIs(t, "too high", s, old, 250, 0, -1, api.OK)
	holdsIs(t, "too high", s, old, 195, 0, -1, api.OK)
	holdsIs(t, "falling", s, old, 194, 0, 60, api.OK)
	// From 200 it falls and comes back in time, from 210 it would not.
	s = exact(0, 20, -10, 200, span(1, 1))
	s.Tools[0].Err = 50
	holdsIs(t, "held at 200", s, 0, 250, 0, 60, api.OK)
	// Start is nothing to a reading that holds.
	s = spaceS()
	s.Start = span(100, 100)
	holdsIs(t, "far from Start", s, fresh, 2, 0, 2, api.OK)
	// Held at 0: it rises from there.
	s = exact(0, 3, -20, 6, span(5, 5))
	holdsIs(t, "held at 0", s, 0, 6, 5, 8, api.OK)
	holdsIs(t, "held at 0", s, 0, 0, 5, 8, api.OK)
	holdsIs(t, "held at 0", s, 0, 0, 4, 8, api.OK)
	holdsIs(t, "held at 0", s, 0, 0, 6, 8, api.OK)
}

// TestFewest is P3.5: one minute, all minutes, the first of several lists, and minutes that no readings cover.
func TestFewest(t *testing.T) {
	s := spaceS()
	for i, c := range []struct {
		s               api.GsSpace
		shown, from, to int
		want            []int
		e               api.Errno
	}{
		{s, 2, 20, 20, []int{20}, api.OK},
		{s, 2, 0, 0, []int{0}, api.OK},
		{s, 2, 60, 60, []int{60}, api.OK},
		{s, 8, 60, 60, []int{60}, api.OK},
		{s, 9, 60, 60, nil, api.ErrDown},
		{s, 9, 10, 20, nil, api.ErrDown},
		{s, -3, 20, 20, nil, api.ErrDown},
		{s, -3, 20, 30, nil, api.ErrDown},
		{s, -2, 20, 30, []int{20, 23, 27}, api.OK},
		{s, -2, 20, 31, []int{20, 24, 28}, api.OK},
		{s, -2, 20, 32, []int{20, 21, 25, 29}, api.OK},
		{s, 2, 20, 22, []int{20}, api.OK},
		{s, 2, 20, 23, []int{20, 21}, api.OK},
		{s, 2, 20, 25, []int{20, 23}, api.OK},
		{s, 2, 20, 26, []int{20, 21, 24}, api.OK},
		{s, 8, 5, 23, []int{5, 6, 7, 8, 9, 10}, api.OK},
		{s, 8, 5, 24, []int{5, 6, 7, 8, 9, 10, 24}, api.OK},
		{s, 8, 10, 23, []int{10}, api.OK},
		{s, 8, 15, 26, []int{15, 24, 25, 26}, api.OK},
		{s, 8, 18, 23, []int{18, 23}, api.OK},
		// At 8 it comes to 10, and then the blower drives it down until 23 is reached; 13 readings from 22 on are just enough.
		{s, 2, 0, 60, append([]int{0, 2, 5, 8}, run(22, 58, 3)...), api.OK},
		{exact(0, 1, 0, 10), 10, 0, 60, run(0, 60, 1), api.OK},
		{exact(0, 0, 0, 10), 10, 0, 60, []int{0}, api.OK},
		{exact(0, -1, 0, 10), 10, 7, 60, []int{7}, api.OK},
		{exact(0, 20, 0, 200), 250, 7, 60, []int{7}, api.OK},
		{exact(0, 20, 0, 199), 199, 58, 60, []int{58, 59, 60}, api.OK},
		// From 7 to 10 a reading holds until 23, and 7 is the first.
		{exact(0, 1, -3, 10, span(8, 12)), 9, 5, 23, []int{5, 7}, api.OK},
		{exact(0, 1, -3, 10, span(8, 12)), 9, 5, 24, []int{5, 7, 23}, api.OK},
		{exact(0, 1, -3, 10, span(8, 12)), 9, 5, 25, []int{5, 7, 24}, api.OK},
	} {
		tool := min(len(c.s.Tools)-1, fresh)
		fewestIs(t, i, c.s, tool, c.shown, c.from, c.to, c.want, c.e)
	}
}

// TestNewMemory is P3.15: arguments stay as they were, and results are new.
func TestNewMemory(t *testing.T) {
	s := spaceS()
	l := readings(read(20, fresh, 12), read(7, old, 40), read(20, fresh, 12))
	same := slices.Clone(l)
	for range 2 {
		list, e := gas.Refusal(s, l, 20)
		if len(list) != 21 || e != api.OK {
			t.Fatalf("Refusal = %v, %d", list, e)
		}
		if want := refusal(s, l, 20); !slices.Equal(list, want) {
			t.Errorf("Refusal = %v; want %v", list, want)
		}
		minutes, e := gas.Fewest(s, fresh, 2, 20, 30)
		if !slices.Equal(minutes, []int{20, 22, 25, 28}) || e != api.OK {
			t.Fatalf("Fewest = %v, %d", minutes, e)
		}
		gas.Level(s, l, 20)
		gas.Until(s, l, 20)
		gas.Holds(s, fresh, 2, 20)
		for i := range list {
			list[i] = -7
		}
		for i := range minutes {
			minutes[i] = -7
		}
	}
	if !sameSpaces(s, spaceS()) || !slices.Equal(l, same) {
		t.Errorf("the arguments are %v, %v", s, l)
	}
}
