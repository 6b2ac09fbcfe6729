package gas_test

import (
	"math/rand/v2"
	"slices"
	"testing"

	"orlop/api"
	"orlop/gas"
)

const (
	least    = -1 << 63
	greatest = 1<<63 - 1
)

// old and fresh are the indices of the instruments old and new of the chapter's examples.
const (
	old   = 0
	fresh = 1
)

func span(lo, hi int) api.Span { return api.Span{Lo: lo, Hi: hi} }

func read(minute, tool, shown int) api.GsReading {
	return api.GsReading{Minute: minute, Tool: tool, Shown: shown}
}

func readings(l ...api.GsReading) []api.GsReading { return l }

// spaceS is the space of the chapter's examples.
func spaceS() api.GsSpace {
	return api.GsSpace{
		Start: span(0, 40), Rise: span(1, 3), Blow: span(-6, -4), Limit: 10,
		Blows: []api.Span{span(10, 19)},
		Tools: []api.GsTool{{Name: "old", Err: 5}, {Name: "new", Err: 2}},
	}
}

// exact is a space whose level is known at first and changes by known numbers, with one instrument that is never wrong.
func exact(start, rise, blow, limit int, blows ...api.Span) api.GsSpace {
	return api.GsSpace{
		Start: span(start, start), Rise: span(rise, rise), Blow: span(blow, blow), Limit: limit,
		Blows: blows, Tools: []api.GsTool{{Name: "exact"}},
	}
}

func copyOf(s api.GsSpace) api.GsSpace {
	s.Blows, s.Tools = slices.Clone(s.Blows), slices.Clone(s.Tools)
	return s
}

func sameSpaces(a, b api.GsSpace) bool {
	return a.Start == b.Start && a.Rise == b.Rise && a.Blow == b.Blow && a.Limit == b.Limit &&
		slices.Equal(a.Blows, b.Blows) && slices.Equal(a.Tools, b.Tools)
}

// changes is the span of numbers by which the level changes from a minute to the next one.
func changes(s api.GsSpace, minute int) api.Span {
	for _, b := range s.Blows {
		for m := b.Lo; m <= b.Hi; m++ {
			if m == minute {
				return s.Blow
			}
		}
	}
	return s.Rise
}

func held(level int) int {
	if level < 0 {
		return 0
	}
	if level > 200 {
		return 200
	}
	return level
}

// agrees reports whether a level at a minute agrees with all readings of this minute.
func agrees(s api.GsSpace, l []api.GsReading, minute, level int) bool {
	for _, r := range l {
		d := r.Shown - level
		if r.Minute == minute && (d > s.Tools[r.Tool].Err || -d > s.Tools[r.Tool].Err) {
			return false
		}
	}
	return true
}

// isTruth reports whether levels from the minute 0 on are those of a truth that agrees with all readings of these minutes.
func isTruth(s api.GsSpace, l []api.GsReading, levels []int) bool {
	for m, level := range levels {
		if !agrees(s, l, m, level) {
			return false
		}
		if m == 0 && (level < s.Start.Lo || level > s.Start.Hi) {
			return false
		}
		if m == 0 {
			continue
		}
		some := false
		by := changes(s, m-1)
		for n := by.Lo; n <= by.Hi; n++ {
			some = some || held(levels[m-1]+n) == level
		}
		if !some {
			return false
		}
	}
	return len(levels) > 0
}

// truths calls a function with the levels up to a minute of all truths at this minute, in order, until it returns false.
func truths(s api.GsSpace, l []api.GsReading, minute int, do func(levels []int) bool) {
	var next func(levels []int, from, to int) bool
	next = func(levels []int, from, to int) bool {
		m := len(levels)
		for level := from; level <= to; level++ {
			if !agrees(s, l, m, level) {
				continue
			}
			longer := append(slices.Clone(levels), level)
			if m == minute {
				if !do(longer) {
					return false
				}
				continue
			}
			by := changes(s, m)
			if !next(longer, held(level+by.Lo), held(level+by.Hi)) {
				return false
			}
		}
		return true
	}
	next(nil, s.Start.Lo, s.Start.Hi)
}

// sets is which levels there can be at each minute in the truths at one minute: all numbers are tried. Behind this minute no readings are known.
func sets(s api.GsSpace, l []api.GsReading, minute int) [61][201]bool {
	var can [61][201]bool
	for level := s.Start.Lo; level <= s.Start.Hi; level++ {
		can[0][level] = agrees(s, l, 0, level)
	}
	for m := 1; m <= 60; m++ {
		by := changes(s, m-1)
		for level := range can[m-1] {
			if !can[m-1][level] {
				continue
			}
			for n := by.Lo; n <= by.Hi; n++ {
				to := held(level + n)
				can[m][to] = can[m][to] || m > minute || agrees(s, l, m, to)
			}
		}
	}
	return can
}

// ends is the least and the greatest level of a set; if there is none it is not found.
func ends(can [201]bool) (s api.Span, found bool) {
	for level, is := range can {
		if is && !found {
			s.Lo, found = level, true
		}
		if is {
			s.Hi = level
		}
	}
	return s, found
}

// burns is until when a torch may burn that is lit at a minute; if there is no truth it is not found.
func burns(s api.GsSpace, l []api.GsReading, minute int) (last int, found bool) {
	can := sets(s, l, minute)
	if _, found := ends(can[minute]); !found {
		return 0, false
	}
	last = -1
	for m := minute; m <= 60; m++ {
		if w, _ := ends(can[m]); w.Hi > s.Limit {
			break
		}
		last = m
	}
	return last, true
}

// refusal is the first truth at a minute in which the level is above the limit then, up to this minute; nil if there is none. Sets are followed backwards, all numbers are tried.
func refusal(s api.GsSpace, l []api.GsReading, minute int) []int {
	can := sets(s, l, minute)
	var leads [61][201]bool
	for level := s.Limit + 1; level <= 200; level++ {
		leads[minute][level] = can[minute][level]
	}
	for m := minute - 1; m >= 0; m-- {
		by := changes(s, m)
		for level, is := range can[m] {
			for n := by.Lo; is && n <= by.Hi; n++ {
				leads[m][level] = leads[m][level] || leads[m+1][held(level+n)]
			}
		}
	}
	first, found := ends(leads[0])
	if !found {
		return nil
	}
	list := []int{first.Lo}
	for m := range minute {
		by := changes(s, m)
		to := held(list[m] + by.Lo)
		for !leads[m+1][to] {
			to++
		}
		list = append(list, to)
	}
	return list
}

// holding is until when a reading holds, by the chapter's words; -1 if it does not.
func holding(s api.GsSpace, tool, shown, minute int) int {
	level := shown + s.Tools[tool].Err
	if level < 0 {
		return -1
	}
	level = held(level)
	last := -1
	for m := minute; m <= 60 && level <= s.Limit; m++ {
		last = m
		level = held(level + changes(s, m).Hi)
	}
	return last
}

// covers reports whether at each minute from one to another one a reading of one of some minutes holds.
func covers(s api.GsSpace, tool, shown, from, to int, minutes []int) bool {
	var is [61]bool
	for _, m := range minutes {
		for n := m; n <= holding(s, tool, shown, m); n++ {
			is[n] = true
		}
	}
	for m := from; m <= to; m++ {
		if !is[m] {
			return false
		}
	}
	return true
}

// fewest is the first of the fewest minutes that cover all from one to another one; nil if there are none. All lists are tried, shorter ones before longer ones.
func fewest(s api.GsSpace, tool, shown, from, to int) []int {
	var lists func(list []int, first, n int) []int
	lists = func(list []int, first, n int) []int {
		if n == 0 {
			if covers(s, tool, shown, from, to, list) {
				return list
			}
			return nil
		}
		for m := first; m <= to; m++ {
			if found := lists(append(slices.Clone(list), m), m+1, n-1); found != nil {
				return found
			}
		}
		return nil
	}
	for n := 1; n <= to-from+1; n++ {
		if found := lists(nil, from, n); found != nil {
			return found
		}
	}
	return nil
}

// fewestOf is how many minutes are the fewest that cover all from one to another one: always the reading that holds longest comes next. 0 if there are none.
func fewestOf(s api.GsSpace, tool, shown, from, to int) int {
	n := 0
	for covered := from - 1; covered < to; n++ {
		longest := -1
		for m := from; m <= covered+1; m++ {
			longest = max(longest, holding(s, tool, shown, m))
		}
		if longest <= covered {
			return 0
		}
		covered = longest
	}
	return n
}

// randomSpan is a span of at most n numbers from lo to hi.
func randomSpan(r *rand.Rand, lo, hi, n int) api.Span {
	s := span(lo+r.IntN(hi-lo+1), 0)
	s.Hi = min(hi, s.Lo+r.IntN(n))
	return s
}

// randomSpace is a space in which the level often is near the limit.
func randomSpace(r *rand.Rand) api.GsSpace {
	s := api.GsSpace{
		Start: randomSpan(r, 0, 60, 30), Rise: randomSpan(r, -2, 6, 4), Blow: randomSpan(r, -9, 1, 4), Limit: 5 + r.IntN(60),
	}
	if r.IntN(6) == 0 {
		s.Start, s.Limit = randomSpan(r, 140, 200, 60), 140+r.IntN(61)
	}
	minute := r.IntN(20)
	for range r.IntN(5) {
		last := minute + r.IntN(10)
		if last > 60 {
			break
		}
		s.Blows = append(s.Blows, span(minute, last))
		minute = last + 1 + r.IntN(10)
	}
	for _, name := range []string{"a", "b", "c"}[:1+r.IntN(3)] {
		s.Tools = append(s.Tools, api.GsTool{Name: name, Err: r.IntN(7)})
	}
	return s
}

// randomTruth is the levels at all minutes in some truth.
func randomTruth(r *rand.Rand, s api.GsSpace) []int {
	levels := []int{s.Start.Lo + r.IntN(s.Start.Hi-s.Start.Lo+1)}
	for m := range 60 {
		by := changes(s, m)
		levels = append(levels, held(levels[m]+by.Lo+r.IntN(by.Hi-by.Lo+1)))
	}
	return levels
}

// randomReadings is n readings that are true of a truth, in some order.
func randomReadings(r *rand.Rand, s api.GsSpace, truth []int, n int) []api.GsReading {
	var l []api.GsReading
	for range n {
		m, tool := r.IntN(61), r.IntN(len(s.Tools))
		wrong := s.Tools[tool].Err
		l = append(l, read(m, tool, truth[m]-wrong+r.IntN(2*wrong+1)))
	}
	return l
}

// many runs a test with random numbers that are the same in each run.
func many(t *testing.T, n int, test func(r *rand.Rand)) {
	t.Helper()
	for i := range n {
		test(rand.New(rand.NewPCG(uint64(i), 3)))
		if t.Failed() {
			t.Fatalf("failed with the random numbers %d", i)
		}
	}
}

// enough checks that a test met something a few times.
func enough(t *testing.T, what string, n, wanted int) {
	t.Helper()
	if n < wanted {
		t.Errorf("%s: only %d", what, n)
	}
}

// levelIs, untilIs, and so on check what a function returns.
func levelIs(t *testing.T, what any, s api.GsSpace, l []api.GsReading, minute int, want api.Span, f api.Errno) {
	t.Helper()
	if got, e := gas.Level(s, l, minute); got != want || e != f {
		t.Errorf("%v: Level = %v, %d; want %v, %d", what, got, e, want, f)
	}
}

func untilIs(t *testing.T, what any, s api.GsSpace, l []api.GsReading, minute, want int, f api.Errno) {
	t.Helper()
	if got, e := gas.Until(s, l, minute); got != want || e != f {
		t.Errorf("%v: Until = %d, %d; want %d, %d", what, got, e, want, f)
	}
}

func refusalIs(t *testing.T, what any, s api.GsSpace, l []api.GsReading, minute int, want []int, f api.Errno) {
	t.Helper()
	if got, e := gas.Refusal(s, l, minute); !slices.Equal(got, want) || e != f {
		t.Errorf("%v: Refusal = %v, %d; want %v, %d", what, got, e, want, f)
	}
}

func holdsIs(t *testing.T, what any, s api.GsSpace, tool, shown, minute, want int, f api.Errno) {
	t.Helper()
	if got, e := gas.Holds(s, tool, shown, minute); got != want || e != f {
		t.Errorf("%v: Holds = %d, %d; want %d, %d", what, got, e, want, f)
	}
}

func fewestIs(t *testing.T, what any, s api.GsSpace, tool, shown, from, to int, want []int, f api.Errno) {
	t.Helper()
	if got, e := gas.Fewest(s, tool, shown, from, to); !slices.Equal(got, want) || e != f {
		t.Errorf("%v: Fewest = %v, %d; want %v, %d", what, got, e, want, f)
	}
}
