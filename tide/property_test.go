package tide_test

import (
	"math/rand/v2"
	"slices"
	"testing"

	"orlop/api"
	"orlop/tide"
)

// surely reports whether a ship stops within the marks in each truth.
func surely(b api.TdBeach, s api.TdShip, i, ballast int) bool {
	_, _, found := misses(b, s, i, ballast)
	return !found
}

// TestEveryTruth is P2.6: both ends of Stops are reached, and no position is beyond them.
func TestEveryTruth(t *testing.T) {
	many(t, 500, func(r *rand.Rand) {
		b, s := randomShore(r)
		i, ballast := r.IntN(len(b.Tides)), r.IntN(api.MaxTdBallast+1)
		var want api.Span
		for k, truth := range truths(b, s, i) {
			widen(&want, stop(truth, s, ballast), k == 0)
		}
		stops(t, b, b, s, i, ballast, want)
		liesAt(t, b, b, s, pull(i, ballast), nil, want, api.OK)
	})
}

// TestWithinTheMarks is P2.7, and which truth Misses returns.
func TestWithinTheMarks(t *testing.T) {
	do, do0 := 0, 0
	many(t, 300, func(r *rand.Rand) {
		b, s := randomShore(r)
		ballast := r.IntN(10)
		var want []int
		for i := range b.Tides {
			truth, at, found := misses(b, s, i, ballast)
			if found {
				do0++
				missesAt(t, i, b, s, i, ballast, truth, at, api.OK)
				continue
			}
			do++
			want = append(want, i)
			missesAt(t, i, b, s, i, ballast, api.TdTruth{}, 0, api.ErrDown)
		}
		ashore(t, ballast, b, s, ballast, want...)
	})
	if do < 50 || do0 < 50 {
		t.Errorf("%d tides do, %d do not", do, do0)
	}
}

// TestMissesOfMany is P2.4, P2.7: the first truth of boxes that are too large to be looked through is a miss, and none before it is one.
func TestMissesOfMany(t *testing.T) {
	misses := 0
	many(t, 100, func(r *rand.Rand) {
		b := api.TdBeach{Slope: randomSpan(r, 1, 200, 200), Tides: []api.TdTide{{Height: randomSpan(r, 0, 1500, 1500), Wind: randomSpan(r, -200, 200, 400)}}}
		s := api.TdShip{Draft: randomSpan(r, 0, 1500, 1500), Sink: r.IntN(10)}
		b.Marks = span(-2000000, 2000000)
		all, _ := tide.Stops(b, s, 0, 5)
		b.Marks = span(max(all.Lo+r.IntN(1+(all.Hi-all.Lo)/9), -2000000), 2000000)
		if r.IntN(2) == 0 {
			b.Marks = span(-2000000, max(-2000000, all.Hi-r.IntN(1+(all.Hi-all.Lo)/9)))
		}
		truth, at, e := tide.Misses(b, s, 0, 5)
		if e == api.ErrDown && b.Marks.Lo <= all.Lo && b.Marks.Hi >= all.Hi {
			return
		}
		within := func(s api.Span, n int) bool { return s.Lo <= n && n <= s.Hi }
		is := within(b.Slope, truth.Slope) && within(s.Draft, truth.Draft) && within(b.Tides[0].Height, truth.Height) && within(b.Tides[0].Wind, truth.Wind)
		if e != api.OK || !is || at != stop(truth, s, 5) || within(b.Marks, at) {
			t.Errorf("Misses = %v, %d, %d", truth, at, e)
		}
		misses++
		// Truths that come before it have the same first numbers, and a lesser one behind them.
		c, u := copyOf(b), s
		spans := []*api.Span{&c.Slope, &u.Draft, &c.Tides[0].Height, &c.Tides[0].Wind}
		for k, n := range []int{truth.Slope, truth.Draft, truth.Height, truth.Wind} {
			if spans[k].Lo < n {
				*spans[k] = span(spans[k].Lo, n-1)
				missesAt(t, k, c, u, 0, 5, api.TdTruth{}, 0, api.ErrDown)
			}
			*spans[k] = span(n, n)
		}
	})
	if misses < 50 {
		t.Errorf("%d misses", misses)
	}
}

// TestLeastBallast is P2.8.
func TestLeastBallast(t *testing.T) {
	with := 0
	many(t, 200, func(r *rand.Rand) {
		b, s := randomShore(r)
		i := r.IntN(len(b.Tides))
		for n := range api.MaxTdBallast + 1 {
			if surely(b, s, i, n) {
				with += min(n, 1)
				leastIs(t, i, b, s, i, n, api.OK)
				return
			}
		}
		leastIs(t, i, b, s, i, 0, api.ErrDown)
	})
	if with < 20 {
		t.Errorf("%d times ballast is needed", with)
	}
}

// TestFirstTide is P2.9 and P2.14.
func TestFirstTide(t *testing.T) {
	many(t, 100, func(r *rand.Rand) {
		b, s := randomShore(r)
		before := 0
		for day := range b.Tides[len(b.Tides)-1].Day + 2 {
			i, ballast, e := tide.First(b, s, day)
			if e == api.ErrDown {
				i = len(b.Tides)
			}
			if i < before {
				t.Errorf("the first tide from %d on is %d, from the day before on %d", day, i, before)
			}
			before = i
			for j := range i {
				if _, f := tide.Least(b, s, j); b.Tides[j].Day >= day && f != api.ErrDown {
					t.Errorf("First = %d, but %d does", i, j)
				}
			}
			if e == api.OK {
				leastIs(t, day, b, s, i, ballast, api.OK)
			}
			if e == api.OK && b.Tides[i].Day < day {
				t.Errorf("First = %d from the day %d on", i, day)
			}
		}
	})
}

// TestPulledInEveryTruth is P2.10, and P2.5.
func TestPulledInEveryTruth(t *testing.T) {
	many(t, 300, func(r *rand.Rand) {
		b, s := randomShore(r)
		run, pulls := randomPulls(r, b, 2)
		want := lies(b, s, run, pulls)
		liesAt(t, pulls, b, s, run, pulls, want, api.OK)
	})
	many(t, 300, func(r *rand.Rand) {
		b, s := randomShore(r)
		run, pulls := randomPulls(r, b, api.MaxTdPulls)
		with, e := tide.Lies(b, s, run, pulls)
		if len(pulls) > 0 {
			pulls = pulls[:len(pulls)-1]
		}
		if without, f := tide.Lies(b, s, run, pulls); e != api.OK || f != api.OK || with.Lo < without.Lo || with.Hi < without.Hi {
			t.Errorf("%v, %d; without the last pull %v, %d", with, e, without, f)
		}
	})
}

// TestLaterInEveryTruth is P2.5.
func TestLaterInEveryTruth(t *testing.T) {
	many(t, 200, func(r *rand.Rand) {
		b, s := randomShore(r)
		run, _ := randomPulls(r, b, 0)
		target := b.Marks.Lo + r.IntN(b.Marks.Hi-b.Marks.Lo+200)
		for i := run.Tide + 1; i < len(b.Tides); i++ {
			if lies(b, s, run, []api.TdPull{pull(i, 0)}).Lo >= target {
				laterIs(t, target, b, s, run, target, i, api.OK)
				return
			}
		}
		laterIs(t, target, b, s, run, target, 0, api.ErrDown)
	})
}

// TestMoreBallast is P2.11.
func TestMoreBallast(t *testing.T) {
	many(t, 300, func(r *rand.Rand) {
		b, s := randomShore(r)
		run, pulls := randomPulls(r, b, api.MaxTdPulls)
		var before api.Span
		for n := range api.MaxTdBallast + 1 {
			w, e := tide.Stops(b, s, run.Tide, n)
			if e != api.OK || n > 0 && (w.Lo > before.Lo || w.Hi > before.Hi || s.Sink == 0 && w != before) {
				t.Errorf("with %d: %v, %d; with one less %v", n, w, e, before)
			}
			before = w
		}
		w, _ := tide.Lies(b, s, run, pulls)
		more := slices.Clone(pulls)
		for i := range more {
			more[i].Ballast += r.IntN(5)
		}
		u, e := tide.Lies(b, s, pull(run.Tide, run.Ballast+r.IntN(5)), more)
		if e != api.OK || u.Lo > w.Lo || u.Hi > w.Hi || s.Sink == 0 && u != w {
			t.Errorf("with more ballast %v, %d; with less %v", u, e, w)
		}
	})
}

// part is a part of a span.
func part(r *rand.Rand, s api.Span) api.Span {
	lo := s.Lo + r.IntN(s.Hi-s.Lo+1)
	return span(lo, lo+r.IntN(s.Hi-lo+1))
}

// TestLessIsKnown is P2.12.
func TestLessIsKnown(t *testing.T) {
	many(t, 300, func(r *rand.Rand) {
		b, s := randomShore(r)
		run, pulls := randomPulls(r, b, api.MaxTdPulls)
		c, u := copyOf(b), s
		c.Slope, u.Draft = part(r, b.Slope), part(r, s.Draft)
		for i := range c.Tides {
			c.Tides[i].Height, c.Tides[i].Wind = part(r, b.Tides[i].Height), part(r, b.Tides[i].Wind)
		}
		inside := func(narrow, wide api.Span) bool { return wide.Lo <= narrow.Lo && narrow.Hi <= wide.Hi }
		wide, _ := tide.Stops(b, s, run.Tide, run.Ballast)
		if w, e := tide.Stops(c, u, run.Tide, run.Ballast); e != api.OK || !inside(w, wide) {
			t.Errorf("Stops = %v, %d, with narrower ranges; %v", w, e, wide)
		}
		wide, _ = tide.Lies(b, s, run, pulls)
		if w, e := tide.Lies(c, u, run, pulls); e != api.OK || !inside(w, wide) {
			t.Errorf("Lies = %v, %d, with narrower ranges; %v", w, e, wide)
		}
		d := withMarks(b, b.Marks.Lo-r.IntN(100), b.Marks.Hi+r.IntN(100))
		l, _ := tide.Ashore(b, s, run.Ballast)
		narrow, _ := tide.Ashore(c, u, run.Ballast)
		wider, _ := tide.Ashore(d, s, run.Ballast)
		for _, i := range l {
			if !slices.Contains(narrow, i) || !slices.Contains(wider, i) {
				t.Errorf("Ashore = %v; with narrower ranges %v, with wider marks %v", l, narrow, wider)
			}
		}
	})
}

// TestMoved is P2.13.
func TestMoved(t *testing.T) {
	many(t, 300, func(r *rand.Rand) {
		b, s := randomShore(r)
		lowest, highest := s.Draft.Lo, s.Draft.Hi
		for _, x := range b.Tides {
			lowest, highest = min(lowest, x.Height.Lo), max(highest, x.Height.Hi)
		}
		n := r.IntN(1500-highest+lowest+1) - lowest
		move := func(w api.Span) api.Span { return span(w.Lo+n, w.Hi+n) }
		c, u := copyOf(b), s
		u.Draft = move(s.Draft)
		for i := range c.Tides {
			c.Tides[i].Height = move(c.Tides[i].Height)
		}
		run, pulls := randomPulls(r, b, api.MaxTdPulls)
		w, _ := tide.Stops(b, s, run.Tide, run.Ballast)
		stops(t, n, c, u, run.Tide, run.Ballast, w)
		w, _ = tide.Lies(b, s, run, pulls)
		liesAt(t, n, c, u, run, pulls, w, api.OK)
		l, _ := tide.Ashore(b, s, run.Ballast)
		ashore(t, n, c, u, run.Ballast, l...)
		i, ballast, e := tide.First(b, s, 0)
		firstIs(t, n, c, u, 0, i, ballast, e)
	})
}

// callAll calls all functions.
func callAll(b api.TdBeach, s api.TdShip, run api.TdPull, pulls []api.TdPull, day, target int) {
	tide.Check(b, s)
	tide.Stops(b, s, run.Tide, run.Ballast)
	tide.Ashore(b, s, run.Ballast)
	tide.Least(b, s, run.Tide)
	tide.First(b, s, day)
	tide.Misses(b, s, run.Tide, run.Ballast)
	tide.Lies(b, s, run, pulls)
	tide.Later(b, s, run, target)
}

// TestArgumentsStay is P2.15: no argument is modified.
func TestArgumentsStay(t *testing.T) {
	many(t, 100, func(r *rand.Rand) {
		b, s := randomShore(r)
		run, pulls := randomPulls(r, b, api.MaxTdPulls)
		c, was := copyOf(b), slices.Clone(pulls)
		callAll(b, s, run, pulls, r.IntN(20), b.Marks.Lo)
		if !sameBeaches(b, c) || !slices.Equal(pulls, was) {
			t.Errorf("the beach is %v, the pulls are %v; they were %v, %v", b, pulls, c, was)
		}
	})
}

// TestAnyArguments is P2.15 and P1: no arguments lead to a panic.
func TestAnyArguments(t *testing.T) {
	wild := []int{least, least + 1, -1 << 32, -2000000, -201, -200, -1, 0, 1, 2, 7, 40, 41, 50, 200, 201, 1500, 40000, 2000000, 1 << 32, greatest - 1, greatest}
	many(t, 5000, func(r *rand.Rand) {
		number := func() int { return wild[r.IntN(len(wild))] }
		b, s := randomShore(r)
		run, pulls := randomPulls(r, b, api.MaxTdPulls)
		spans := []*api.Span{&b.Slope, &b.Marks, &s.Draft, &b.Tides[0].Height, &b.Tides[0].Wind}
		switch r.IntN(4) {
		case 0:
			*spans[r.IntN(len(spans))] = span(number(), number())
		case 1:
			b.Bite, b.Tides[0].Day = number(), number()
		case 2:
			b.Tides, s.Sink = b.Tides[:r.IntN(2)], number()
		}
		callAll(b, s, run, pulls, number(), number())
		callAll(b, s, pull(number(), number()), append(pulls, pull(number(), number())), number(), number())
		callAll(b, s, pull(0, 0), []api.TdPull{pull(number(), number()), pull(number(), number())}, number(), number())
	})
}
