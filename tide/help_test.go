package tide_test

import (
	"math/rand/v2"
	"slices"
	"testing"

	"orlop/api"
	"orlop/tide"
)

const (
	least    = -1 << 63
	greatest = 1<<63 - 1
)

func span(lo, hi int) api.Span { return api.Span{Lo: lo, Hi: hi} }

func high(day, lo, hi, windLo, windHi int) api.TdTide {
	return api.TdTide{Day: day, Height: span(lo, hi), Wind: span(windLo, windHi)}
}

func pull(tide, ballast int) api.TdPull { return api.TdPull{Tide: tide, Ballast: ballast} }

// beachB and shipB are the beach and the ship of the chapter's examples.
func beachB() api.TdBeach {
	return api.TdBeach{Slope: span(20, 25), Marks: span(6000, 12000), Bite: 50, Tides: []api.TdTide{
		high(3, 500, 520, -10, 20), high(17, 560, 590, -10, 20),
	}}
}

func shipB() api.TdShip { return api.TdShip{Draft: span(300, 310), Sink: 5} }

// exact is a beach with the slope 7 and no bite, on which nothing but the heights of the tides has a range; a ship without draft stops at 1000 times the height, by 7.
func exact(marks api.Span, heights ...api.Span) api.TdBeach {
	b := api.TdBeach{Slope: span(7, 7), Marks: marks}
	for i, h := range heights {
		b.Tides = append(b.Tides, api.TdTide{Day: i, Height: h})
	}
	return b
}

func copyOf(b api.TdBeach) api.TdBeach {
	b.Tides = slices.Clone(b.Tides)
	return b
}

func sameBeaches(a, b api.TdBeach) bool {
	return a.Slope == b.Slope && a.Marks == b.Marks && a.Bite == b.Bite && slices.Equal(a.Tides, b.Tides)
}

// floor is the greatest integer that, times the slope, is at most 1000 times the rise.
func floor(rise, slope int) int {
	n := 1000*rise/slope + 1
	for n*slope > 1000*rise {
		n--
	}
	return n
}

// stop is where a ship stops in a truth, by the chapter's words.
func stop(t api.TdTruth, s api.TdShip, ballast int) int {
	return floor(t.Height+t.Wind-t.Draft-s.Sink*ballast, t.Slope)
}

// numbers calls a function with all numbers of a span, ascending.
func numbers(s api.Span, do func(n int)) {
	for n := s.Lo; n <= s.Hi; n++ {
		do(n)
	}
}

// truths is all truths of a tide, in the order in which they are compared.
func truths(b api.TdBeach, s api.TdShip, i int) []api.TdTruth {
	var l []api.TdTruth
	numbers(b.Slope, func(slope int) {
		numbers(s.Draft, func(draft int) {
			numbers(b.Tides[i].Height, func(height int) {
				numbers(b.Tides[i].Wind, func(wind int) {
					l = append(l, api.TdTruth{Slope: slope, Draft: draft, Height: height, Wind: wind})
				})
			})
		})
	})
	return l
}

// misses is the first truth in which the ship stops beyond the marks, and where; if there is none it is not found.
func misses(b api.TdBeach, s api.TdShip, i, ballast int) (t api.TdTruth, at int, found bool) {
	for _, t := range truths(b, s, i) {
		if at := stop(t, s, ballast); at < b.Marks.Lo || at > b.Marks.Hi {
			return t, at, true
		}
	}
	return api.TdTruth{}, 0, false
}

// widen adds a number to a span.
func widen(s *api.Span, n int, first bool) {
	if first {
		*s = span(n, n)
	}
	*s = span(min(s.Lo, n), max(s.Hi, n))
}

// lies is where a ship lies after a run and pulls, over all truths of them, of which each is looked at.
func lies(b api.TdBeach, s api.TdShip, run api.TdPull, pulls []api.TdPull) api.Span {
	var all api.Span
	first := true
	var next func(slope, draft, at int, left []api.TdPull)
	next = func(slope, draft, at int, left []api.TdPull) {
		if len(left) == 0 {
			widen(&all, at, first)
			first = false
			return
		}
		p := left[0]
		numbers(b.Tides[p.Tide].Height, func(height int) {
			numbers(b.Tides[p.Tide].Wind, func(wind int) {
				to := floor(height+wind+b.Bite-draft-s.Sink*p.Ballast, slope)
				next(slope, draft, max(at, to), left[1:])
			})
		})
	}
	for _, t := range truths(b, s, run.Tide) {
		next(t.Slope, t.Draft, stop(t, s, run.Ballast), pulls)
	}
	return all
}

// randomSpan is a span of at most n numbers from lo to hi.
func randomSpan(r *rand.Rand, lo, hi, n int) api.Span {
	s := span(lo+r.IntN(hi-lo+1), 0)
	s.Hi = min(hi, s.Lo+r.IntN(n))
	return s
}

// randomShore is a beach and a ship with few truths, that often stops near the marks.
func randomShore(r *rand.Rand) (api.TdBeach, api.TdShip) {
	b := api.TdBeach{Slope: randomSpan(r, 1, 1+r.IntN(api.MaxTdSlope), 4), Bite: r.IntN(30)}
	day := r.IntN(5)
	base := r.IntN(api.MaxTdHeight - 100)
	for range 1 + r.IntN(api.MaxTdTides) {
		b.Tides = append(b.Tides, api.TdTide{Day: day, Height: randomSpan(r, base, base+60, 3), Wind: randomSpan(r, -20, 20, 3)})
		day += r.IntN(4)
	}
	s := api.TdShip{Draft: randomSpan(r, base, base+100, 3), Sink: r.IntN(4)}
	if r.IntN(4) == 0 {
		s.Sink = r.IntN(api.MaxTdSink + 1)
	}
	near, _ := tide.Stops(withMarks(b, -api.MaxTdFar, api.MaxTdFar), s, r.IntN(len(b.Tides)), r.IntN(8))
	b.Marks = span(near.Lo-r.IntN(40), near.Hi+r.IntN(40))
	return b, s
}

func withMarks(b api.TdBeach, lo, hi int) api.TdBeach {
	b.Marks = span(lo, hi)
	return b
}

// randomPulls is a run and at most n pulls.
func randomPulls(r *rand.Rand, b api.TdBeach, n int) (api.TdPull, []api.TdPull) {
	run := pull(r.IntN(len(b.Tides)), r.IntN(12))
	var pulls []api.TdPull
	for i := run.Tide + 1; i < len(b.Tides) && len(pulls) < n; i++ {
		if r.IntN(2) == 0 {
			pulls = append(pulls, pull(i, r.IntN(12)))
		}
	}
	return run, pulls
}

// many runs a test with random numbers that are the same in each run.
func many(t *testing.T, n int, test func(r *rand.Rand)) {
	t.Helper()
	for i := range n {
		test(rand.New(rand.NewPCG(uint64(i), 2)))
		if t.Failed() {
			t.Fatalf("failed with the random numbers %d", i)
		}
	}
}

// stops, ashore, and so on check what a function returns.
func stops(t *testing.T, what any, b api.TdBeach, s api.TdShip, i, ballast int, want api.Span) {
	t.Helper()
	if got, e := tide.Stops(b, s, i, ballast); got != want || e != api.OK {
		t.Errorf("%v: Stops = %v, %d; want %v", what, got, e, want)
	}
}

func ashore(t *testing.T, what any, b api.TdBeach, s api.TdShip, ballast int, want ...int) {
	t.Helper()
	if got, e := tide.Ashore(b, s, ballast); !slices.Equal(got, want) || e != api.OK {
		t.Errorf("%v: Ashore = %v, %d; want %v", what, got, e, want)
	}
}

func leastIs(t *testing.T, what any, b api.TdBeach, s api.TdShip, i, want int, f api.Errno) {
	t.Helper()
	if got, e := tide.Least(b, s, i); got != want || e != f {
		t.Errorf("%v: Least = %d, %d; want %d, %d", what, got, e, want, f)
	}
}

func firstIs(t *testing.T, what any, b api.TdBeach, s api.TdShip, day, i, ballast int, f api.Errno) {
	t.Helper()
	if gotTide, got, e := tide.First(b, s, day); gotTide != i || got != ballast || e != f {
		t.Errorf("%v: First = %d, %d, %d; want %d, %d, %d", what, gotTide, got, e, i, ballast, f)
	}
}

func missesAt(t *testing.T, what any, b api.TdBeach, s api.TdShip, i, ballast int, truth api.TdTruth, at int, f api.Errno) {
	t.Helper()
	if got, gotAt, e := tide.Misses(b, s, i, ballast); got != truth || gotAt != at || e != f {
		t.Errorf("%v: Misses = %v, %d, %d; want %v, %d, %d", what, got, gotAt, e, truth, at, f)
	}
}

func liesAt(t *testing.T, what any, b api.TdBeach, s api.TdShip, run api.TdPull, pulls []api.TdPull, want api.Span, f api.Errno) {
	t.Helper()
	if got, e := tide.Lies(b, s, run, pulls); got != want || e != f {
		t.Errorf("%v: Lies = %v, %d; want %v, %d", what, got, e, want, f)
	}
}

func laterIs(t *testing.T, what any, b api.TdBeach, s api.TdShip, run api.TdPull, target, want int, f api.Errno) {
	t.Helper()
	if got, e := tide.Later(b, s, run, target); got != want || e != f {
		t.Errorf("%v: Later = %d, %d; want %d, %d", what, got, e, want, f)
	}
}
