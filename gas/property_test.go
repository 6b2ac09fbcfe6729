package gas_test

import (
	"math/rand/v2"
	"slices"
	"testing"

	"orlop/api"
	"orlop/gas"
)

// randomSight is a space, readings, of which most have a truth, and a minute.
func randomSight(r *rand.Rand) (api.GsSpace, []api.GsReading, int) {
	s := randomSpace(r)
	l := randomReadings(r, s, randomTruth(r, s), r.IntN(13))
	if len(l) > 0 && r.IntN(3) == 0 {
		l[r.IntN(len(l))].Shown += r.IntN(13) - 6
	}
	return s, l, r.IntN(61)
}

// asks is what Level and Until return of the truths at a minute, so that it can be compared.
type asks struct {
	level  api.Span
	until  int
	refuse bool
	e      api.Errno
}

func ask(t *testing.T, s api.GsSpace, l []api.GsReading, minute int) asks {
	t.Helper()
	w, e := gas.Level(s, l, minute)
	n, f := gas.Until(s, l, minute)
	list, g := gas.Refusal(s, l, minute)
	if e != f || e != api.OK && g != e || g != api.OK && g != e && g != api.ErrNone {
		t.Errorf("Level, Until, Refusal of %v, %v, %d: errors %d, %d, %d", s, l, minute, e, f, g)
	}
	return asks{w, n, list != nil, e}
}

// TestAgainstSets is P3.2 and P3.3: what all levels one by one say, minute by minute.
func TestAgainstSets(t *testing.T) {
	down, lit, refused := 0, 0, 0
	many(t, 1500, func(r *rand.Rand) {
		s, l, minute := randomSight(r)
		last, found := burns(s, l, minute)
		if !found {
			down++
			levelIs(t, s, s, l, minute, span(0, 0), api.ErrDown)
			untilIs(t, s, s, l, minute, 0, api.ErrDown)
			refusalIs(t, s, s, l, minute, nil, api.ErrDown)
			return
		}
		want, _ := ends(sets(s, l, minute)[minute])
		levelIs(t, s, s, l, minute, want, api.OK)
		untilIs(t, s, s, l, minute, last, api.OK)
		list := refusal(s, l, minute)
		if list == nil {
			lit++
			refusalIs(t, s, s, l, minute, nil, api.ErrNone)
			return
		}
		refused++
		refusalIs(t, s, s, l, minute, list, api.OK)
	})
	enough(t, "no truth", down, 50)
	enough(t, "lit", lit, 200)
	enough(t, "refused", refused, 200)
}

// TestAgainstTruths is P3.2, P3.3 and P3.8: what all truths of the first minutes say, of which each is looked at.
func TestAgainstTruths(t *testing.T) {
	refused, down := 0, 0
	many(t, 400, func(r *rand.Rand) {
		s := randomSpace(r)
		s.Start, s.Rise, s.Blow = randomSpan(r, 0, 12, 6), randomSpan(r, -4, 4, 3), randomSpan(r, -6, 2, 3)
		s.Limit = r.IntN(16)
		if r.IntN(4) == 0 {
			s.Start, s.Limit = randomSpan(r, 190, 200, 6), 185+r.IntN(16)
		}
		s.Blows = nil
		if r.IntN(2) == 0 {
			s.Blows = []api.Span{randomSpan(r, 0, 4, 3)}
		}
		minute := r.IntN(6)
		truth := randomTruth(r, s)[:minute+1]
		var l []api.GsReading
		for range r.IntN(4) {
			m := r.IntN(minute + 1)
			l = append(l, read(m, r.IntN(len(s.Tools)), truth[m]-2+r.IntN(5)))
		}
		var first []int
		all := span(greatest, least)
		truths(s, l, minute, func(levels []int) bool {
			all = span(min(all.Lo, levels[minute]), max(all.Hi, levels[minute]))
			if first == nil && levels[minute] > s.Limit {
				first = levels
			}
			return true
		})
		switch {
		case all.Lo > all.Hi:
			down++
			levelIs(t, s, s, l, minute, span(0, 0), api.ErrDown)
			refusalIs(t, s, s, l, minute, nil, api.ErrDown)
			return
		case first == nil:
			refusalIs(t, s, s, l, minute, nil, api.ErrNone)
		default:
			refused++
			refusalIs(t, s, s, l, minute, first, api.OK)
		}
		levelIs(t, s, s, l, minute, all, api.OK)
	})
	enough(t, "refused", refused, 50)
	enough(t, "no truth", down, 20)
}

// TestNoTorchInGas is P3.6: in any truth the level is in the range, and at most the limit while a torch may burn.
func TestNoTorchInGas(t *testing.T) {
	burning := 0
	many(t, 500, func(r *rand.Rand) {
		s := randomSpace(r)
		truth := randomTruth(r, s)
		l := randomReadings(r, s, truth, r.IntN(13))
		if !isTruth(s, l, truth) {
			t.Fatalf("%v is no truth", truth)
		}
		for m, level := range truth {
			a := ask(t, s, l, m)
			if a.e != api.OK || level < a.level.Lo || level > a.level.Hi {
				t.Errorf("at %d: %v, %d; the level is %d", m, a.level, a.e, level)
			}
			for n := m; n <= a.until; n++ {
				burning++
				if truth[n] > s.Limit {
					t.Errorf("at %d: until %d, but at %d the level is %d", m, a.until, n, truth[n])
				}
			}
		}
	})
	enough(t, "minutes with a torch", burning, 1000)
}

// TestRefusedForAReason is P3.7.
func TestRefusedForAReason(t *testing.T) {
	refused, behind := 0, 0
	many(t, 1500, func(r *rand.Rand) {
		s, l, minute := randomSight(r)
		until, e := gas.Until(s, l, minute)
		if e != api.OK {
			return
		}
		list, e := gas.Refusal(s, l, minute)
		if (until == -1) != (e == api.OK) || (e == api.OK) != (list != nil) {
			t.Errorf("Until = %d, Refusal = %v, %d", until, list, e)
		}
		if until == -1 {
			refused++
			if len(list) != minute+1 || !isTruth(s, l, list) || list[minute] <= s.Limit {
				t.Errorf("Refusal at %d = %v", minute, list)
			}
			return
		}
		if until < 60 {
			behind++
			if w, _ := ends(sets(s, l, minute)[until+1]); w.Hi <= s.Limit {
				t.Errorf("Until = %d, but behind it there are %v", until, w)
			}
		}
	})
	enough(t, "refused", refused, 100)
	enough(t, "put out", behind, 100)
}

// TestReached is P3.8: with a further reading that is never wrong there is a truth just if it is in the range, as all numbers in it are.
func TestReached(t *testing.T) {
	ranges := 0
	many(t, 400, func(r *rand.Rand) {
		s, l, minute := randomSight(r)
		l = l[:max(0, len(l)-1)]
		s.Tools[0].Err = 0
		w, e := gas.Level(s, l, minute)
		if e != api.OK {
			return
		}
		ranges++
		for shown := w.Lo - 1; shown <= w.Hi+1; shown++ {
			further := append(slices.Clone(l), read(minute, 0, shown))
			if shown < w.Lo || shown > w.Hi {
				levelIs(t, shown, s, further, minute, span(0, 0), api.ErrDown)
			} else {
				levelIs(t, shown, s, further, minute, span(shown, shown), api.OK)
			}
		}
	})
	enough(t, "ranges", ranges, 200)
}

// isNarrower checks that what is known by b is no less than what is known by a.
func isNarrower(t *testing.T, a, b asks) {
	t.Helper()
	if b.e == api.ErrDown {
		return
	}
	if a.e != api.OK || b.e != api.OK || b.level.Lo < a.level.Lo || b.level.Hi > a.level.Hi || b.until < a.until || b.refuse && !a.refuse {
		t.Errorf("%v is wider than %v", b, a)
	}
}

// TestOneMoreReading is P3.9.
func TestOneMoreReading(t *testing.T) {
	narrower, longer, down := 0, 0, 0
	many(t, 1500, func(r *rand.Rand) {
		s := randomSpace(r)
		truth := randomTruth(r, s)
		l := randomReadings(r, s, truth, r.IntN(12))
		further := append(slices.Clone(l), randomReadings(r, s, truth, 1)...)
		if r.IntN(4) == 0 {
			further[len(l)].Shown += r.IntN(9) - 4
		}
		minute := r.IntN(61)
		a, b := ask(t, s, l, minute), ask(t, s, further, minute)
		isNarrower(t, a, b)
		if b.e == api.OK && a.level != b.level {
			narrower++
		}
		if b.until > a.until {
			longer++
		}
		if a.e == api.OK && b.e == api.ErrDown {
			down++
		}
		// Of readings without a truth none is made by a further one.
		if a.e == api.ErrDown && b.e != api.ErrDown {
			t.Errorf("%v by a further reading", b)
		}
	})
	enough(t, "narrower", narrower, 50)
	enough(t, "longer", longer, 20)
	enough(t, "no truth", down, 20)
}

// TestAnyOrder is P3.10 and P3.14: in any order, told twice, and with readings of later minutes.
func TestAnyOrder(t *testing.T) {
	later := 0
	many(t, 500, func(r *rand.Rand) {
		s, l, minute := randomSight(r)
		a := ask(t, s, l, minute)
		list, _ := gas.Refusal(s, l, minute)
		other := slices.Clone(l)
		r.Shuffle(len(other), func(i, j int) { other[i], other[j] = other[j], other[i] })
		for len(other) > 0 && len(other) < 12 && r.IntN(3) > 0 {
			other = append(other, other[r.IntN(len(other))])
		}
		for len(other) < 12 && minute < 60 && r.IntN(3) > 0 {
			later++
			other = append(other, read(minute+1+r.IntN(60-minute), r.IntN(len(s.Tools)), -50+r.IntN(301)))
		}
		if b := ask(t, s, other, minute); b != a {
			t.Errorf("%v, %v: %v; in another order %v", s, l, a, b)
		}
		if again, _ := gas.Refusal(s, other, minute); !slices.Equal(list, again) {
			t.Errorf("%v; in another order %v", list, again)
		}
	})
	enough(t, "later", later, 200)
}

// TestFewestOfAll is P3.5: what all lists say, of which each is tried.
func TestFewestOfAll(t *testing.T) {
	lists, down := 0, 0
	many(t, 400, func(r *rand.Rand) {
		s := randomSpace(r)
		tool := r.IntN(len(s.Tools))
		shown := max(-50, s.Limit-s.Tools[tool].Err-r.IntN(30)+1)
		from := r.IntN(61)
		to := min(60, from+r.IntN(10))
		want := fewest(s, tool, shown, from, to)
		if want == nil {
			down++
			fewestIs(t, s, s, tool, shown, from, to, nil, api.ErrDown)
			return
		}
		if len(want) > 1 && len(want) <= to-from {
			lists++
		}
		fewestIs(t, s, s, tool, shown, from, to, want, api.OK)
	})
	enough(t, "lists of some minutes", lists, 50)
	enough(t, "none", down, 10)
}

// TestFewestOfMany is P3.5 and P3.11: lists of up to all minutes cover them, are no longer than they have to be, and no minute can be an earlier one.
func TestFewestOfMany(t *testing.T) {
	long := 0
	many(t, 300, func(r *rand.Rand) {
		s := randomSpace(r)
		shown := max(-50, s.Limit-s.Tools[0].Err-r.IntN(20))
		from := r.IntN(61)
		to := from + r.IntN(61-from)
		n := fewestOf(s, 0, shown, from, to)
		list, e := gas.Fewest(s, 0, shown, from, to)
		if n == 0 {
			fewestIs(t, s, s, 0, shown, from, to, nil, api.ErrDown)
			return
		}
		if e != api.OK || len(list) != n || !covers(s, 0, shown, from, to, list) || !slices.IsSorted(list) {
			t.Errorf("Fewest = %v, %d; want %d minutes", list, e, n)
			return
		}
		if n > 8 {
			long++
		}
		for i := 1; i < n; i++ {
			// With any earlier minute here, as many as are left do not cover all behind it.
			for m := list[i-1] + 1; m < list[i]; m++ {
				covered := max(holding(s, 0, shown, m), holding(s, 0, shown, list[i-1]))
				if covered >= to || fewestFrom(s, shown, m+1, covered, to) <= n-i-1 {
					t.Errorf("Fewest = %v, though %d could be %d", list, list[i], m)
				}
			}
		}
	})
	enough(t, "long lists", long, 20)
}

// fewestFrom is how many minutes, from one on, are the fewest with which all up to another one are covered, if they are up to some.
func fewestFrom(s api.GsSpace, shown, from, covered, to int) int {
	n := 0
	for ; covered < to; n++ {
		longest := -1
		for m := from; m <= covered+1; m++ {
			longest = max(longest, holding(s, 0, shown, m))
		}
		covered = longest
	}
	return n
}

// TestReadOftenEnough is P3.11: with readings at the minutes of Fewest that show at most what was asked for a torch may burn.
func TestReadOftenEnough(t *testing.T) {
	burning := 0
	many(t, 600, func(r *rand.Rand) {
		s := randomSpace(r)
		shown := max(-50, s.Limit-s.Tools[0].Err-r.IntN(20))
		from := r.IntN(61)
		to := min(60, from+r.IntN(25))
		list, e := gas.Fewest(s, 0, shown, from, to)
		if e != api.OK || len(list) > 12 {
			return
		}
		var l []api.GsReading
		for _, m := range list {
			l = append(l, read(m, 0, max(-50, shown-r.IntN(4))))
		}
		for m := from; m <= to; m++ {
			until, e := gas.Until(s, l, m)
			if e == api.ErrDown {
				break
			}
			burning++
			if e != api.OK || until < m {
				t.Errorf("%v, %v: Until at %d = %d, %d", s, l, m, until, e)
			}
		}
	})
	enough(t, "minutes with a torch", burning, 500)
}

// TestReadTooSeldom is P3.11: with fewer minutes there is one at which no torch may burn, if all levels can be at first.
func TestReadTooSeldom(t *testing.T) {
	tried := 0
	many(t, 150, func(r *rand.Rand) {
		s := randomSpace(r)
		s.Start, s.Limit, s.Tools[0].Err = span(0, 200), 20+r.IntN(50), 20
		shown := s.Limit - 20 - r.IntN(8)
		to := r.IntN(8)
		list, e := gas.Fewest(s, 0, shown, 0, to)
		if e != api.OK {
			t.Errorf("Fewest = %v, %d", list, e)
			return
		}
		for minutes := range 1 << (to + 1) {
			var l []api.GsReading
			for m := range to + 1 {
				if minutes>>m&1 == 1 {
					l = append(l, read(m, 0, shown))
				}
			}
			if len(l) >= len(list) {
				continue
			}
			tried++
			may := true
			for m := range to + 1 {
				until, e := gas.Until(s, l, m)
				may = may && e == api.OK && until >= m
			}
			if may {
				t.Errorf("%v: %v do, not only %v", s, l, list)
			}
		}
	})
	enough(t, "lists", tried, 500)
}

// TestWider is P3.12.
func TestWider(t *testing.T) {
	wider, shorter := 0, 0
	many(t, 1000, func(r *rand.Rand) {
		s, l, minute := randomSight(r)
		wide := copyOf(s)
		extend := func(s api.Span, lo, hi int) api.Span {
			return span(max(lo, s.Lo-r.IntN(3)), min(hi, s.Hi+r.IntN(3)))
		}
		switch r.IntN(4) {
		case 0:
			wide.Start = extend(s.Start, 0, 200)
		case 1:
			wide.Rise = extend(s.Rise, -20, 20)
		case 2:
			wide.Blow = extend(s.Blow, -20, 20)
		case 3:
			wide.Tools[0].Err += r.IntN(4)
		}
		a, b := ask(t, wide, l, minute), ask(t, s, l, minute)
		isNarrower(t, a, b)
		if b.e == api.OK && a.level != b.level {
			wider++
		}
		if b.e == api.OK && a.until < b.until {
			shorter++
		}
	})
	enough(t, "wider", wider, 100)
	enough(t, "shorter", shorter, 30)
}

// TestHolding is P3.4 and P3.13: how long readings hold; one that shows more holds no longer, and a torch may burn at least as long.
func TestHolding(t *testing.T) {
	shorter, longer := 0, 0
	many(t, 200, func(r *rand.Rand) {
		s := randomSpace(r)
		tool, minute := r.IntN(len(s.Tools)), r.IntN(61)
		before := 60
		for shown := -50; shown <= 250; shown++ {
			holdsIs(t, shown, s, tool, shown, minute, holding(s, tool, shown, minute), api.OK)
			n, _ := gas.Holds(s, tool, shown, minute)
			if shown+s.Tools[tool].Err >= 0 {
				if n > before {
					t.Errorf("%d holds until %d, less until %d", shown, n, before)
				}
				if n < before {
					shorter++
				}
				before = n
			}
			until, e := gas.Until(s, readings(read(minute, tool, shown)), minute)
			if e == api.OK && until < n {
				t.Errorf("%d holds until %d, but a torch may burn until %d", shown, n, until)
			}
			if e == api.OK && until > n {
				longer++
			}
		}
	})
	enough(t, "shorter", shorter, 200)
	enough(t, "longer", longer, 50)
}

// TestAnyArguments is P1 and P3.15: any numbers are accepted, and no argument is changed.
func TestAnyArguments(t *testing.T) {
	ok, not := 0, 0
	many(t, 3000, func(r *rand.Rand) {
		s, l, minute := randomSight(r)
		odd := []int{least, least + 1, -1 << 32, -51, -21, -1, 0, 20, 60, 61, 200, 201, 250, 251, 1 << 32, greatest - 1, greatest}
		spoil := func(n *int) {
			if r.IntN(40) == 0 {
				*n = odd[r.IntN(len(odd))]
			}
		}
		for _, n := range []*int{&s.Start.Lo, &s.Start.Hi, &s.Rise.Lo, &s.Rise.Hi, &s.Blow.Lo, &s.Blow.Hi, &s.Limit, &minute} {
			spoil(n)
		}
		for i := range s.Blows {
			spoil(&s.Blows[i].Lo)
			spoil(&s.Blows[i].Hi)
		}
		for i := range s.Tools {
			spoil(&s.Tools[i].Err)
		}
		for i := range l {
			spoil(&l[i].Minute)
			spoil(&l[i].Tool)
			spoil(&l[i].Shown)
		}
		same, sameReadings := copyOf(s), slices.Clone(l)
		a := ask(t, s, l, minute)
		part, at, e := gas.Check(s)
		if e != api.OK && a.e != e || (e == api.OK) != (part == 0) || part == 0 && at != 0 {
			t.Errorf("Check = %d, %d, %d, but the others %d", part, at, e, a.e)
		}
		gas.Holds(s, minute, odd[r.IntN(len(odd))], minute)
		gas.Fewest(s, 0, odd[r.IntN(len(odd))], minute, odd[r.IntN(len(odd))])
		if !sameSpaces(s, same) || !slices.Equal(l, sameReadings) {
			t.Errorf("the arguments are %v, %v", s, l)
		}
		if a.e == api.OK {
			ok++
		} else {
			not++
		}
	})
	enough(t, "good", ok, 300)
	enough(t, "with an error", not, 300)
}
