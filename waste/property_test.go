package waste_test

import (
	"math/rand/v2"
	"slices"
	"testing"

	"orlop/api"
	"orlop/waste"
)

// closes is Closes without an error.
func closes(t *testing.T, y api.WaYard, wrong []int) bool {
	t.Helper()
	does, e := waste.Closes(y, wrong)
	if e != api.OK {
		t.Errorf("Closes of %+v with %v: %d", y, wrong, e)
	}
	return does
}

// truths calls a function with each truth of a yard in which what journeys with a false paper have is at most so much, and all other papers are true.
func truths(y api.WaYard, wrong []int, most int, do func(x truth)) {
	x := truth{make([]int, len(y.First)), make([]int, len(y.Papers))}
	var next func(i int)
	next = func(i int) {
		switch at := i - len(y.First); {
		case at < 0:
			for x.first[i] = y.First[i].Kilos.Lo; x.first[i] <= y.First[i].Kilos.Hi; x.first[i]++ {
				next(i + 1)
			}
		case at == len(y.Papers):
			if closedBy(y, wrong, x) {
				do(x)
			}
		case y.Papers[at].Copy >= 0 && y.Papers[at].Copy < at:
			x.went[at] = x.went[y.Papers[at].Copy]
			next(i + 1)
		default:
			s := allows(y, wrong, at)
			for x.went[at] = s.Lo; x.went[at] <= min(s.Hi, max(s.Lo, most)); x.went[at]++ {
				next(i + 1)
			}
		}
	}
	next(0)
}

// TestAgainstTruths is P9.2 and P9.4: all truths of small yards with small numbers are looked at.
func TestAgainstTruths(t *testing.T) {
	closed, open, ends := 0, 0, 0
	many(t, 3000, func(r *rand.Rand) {
		y := randomYard(r, size{from(r, 1, 2), from(r, 1, 3), from(r, 0, 4), 2})
		if len(y.First) > 4 {
			return
		}
		wrong := randomWrong(r, y)
		const most = 7
		spans := make([]api.Span, len(y.Papers)+len(y.Kinds)) // of the numbers that were met
		for i := range spans {
			spans[i] = span(greatest, least)
		}
		met := false
		truths(y, wrong, most, func(x truth) {
			met = true
			l := slices.Clone(x.went)
			for kind := range y.Kinds {
				l = append(l, goneIn(y, x, kind))
			}
			for i, n := range l {
				spans[i] = span(min(spans[i].Lo, n), max(spans[i].Hi, n))
			}
		})
		does := closes(t, y, wrong)
		if met && !does {
			t.Errorf("%+v with %v does not close", y, wrong)
		}
		if !does {
			open++
			return
		}
		if !met { // some number is greater
			if _, is := truthOf(y, wrong); !is {
				t.Errorf("%+v with %v closes", y, wrong)
			}
			return
		}
		closed++
		for i := range y.Papers {
			s, e := waste.Range(y, wrong, i)
			lo, hi := spans[i].Lo == s.Lo, spans[i].Hi == s.Hi || spans[i].Hi == most && s.Hi > most
			if allows(y, wrong, i) != span(0, 1000000) && (!lo || !hi) || s.Lo > spans[i].Lo || s.Hi < spans[i].Hi || e != api.OK {
				t.Errorf("%+v with %v: Range of %d = %v, %d; met are %v", y, wrong, i, s, e, spans[i])
			}
			if lo && hi {
				ends++
			}
		}
		for kind := range y.Kinds {
			s, e := waste.Gone(y, wrong, kind)
			if m := spans[len(y.Papers)+kind]; s.Lo > m.Lo || s.Hi < m.Hi || e != api.OK {
				t.Errorf("%+v with %v: Gone of %d = %v, %d; met are %v", y, wrong, kind, s, e, m)
			}
		}
	})
	enough(t, "yards that close", closed, 500)
	enough(t, "yards that do not", open, 500)
	enough(t, "ranges with both ends met", ends, 1000)
}

// TestProved is P9.2 and P9.9: a yard does not close just if there is a proof, and no truth; Why returns the first one, and Proves accepts just the proofs.
func TestProved(t *testing.T) {
	closed, paper, more, less, accepted := 0, 0, 0, 0, 0
	many(t, 6000, func(r *rand.Rand) {
		y := randomYard(r, randomSize(r, 10))
		wrong := randomWrong(r, y)
		_, does := truthOf(y, wrong)
		closesIs(t, "any", y, wrong, does, api.OK)
		proofs := proofsOf(y, wrong)
		if does != (len(proofs) == 0) {
			t.Errorf("%+v with %v: %v, but the proofs %v", y, wrong, does, proofs)
		}
		if does {
			whyIs(t, "any", y, wrong, api.WaProof{}, api.ErrNone)
			closed++
		} else {
			whyIs(t, "any", y, wrong, proofs[0], api.OK)
			switch p := proofs[0]; {
			case p.Paper >= 0:
				paper++
			case p.Over > 0:
				more++
			default:
				less++
			}
		}
		for _, p := range proofs {
			provesIs(t, "a proof", y, wrong, p, true, api.OK)
			for range 6 {
				q := p
				field := []*int{&q.Paper, &q.Kind, &q.Places, &q.Over}[r.IntN(4)]
				*field += ints(-1, 1, -1, 1, 2, -2, 4, 1<<32)[r.IntN(8)]
				provesIs(t, "nearly a proof", y, wrong, q, isProof(y, wrong, q), api.OK)
				other := randomWrong(r, y)
				provesIs(t, "with other papers", y, other, p, isProof(y, other, p), api.OK)
				if isProof(y, other, p) {
					accepted++
					closesIs(t, "with a proof", y, other, false, api.OK)
				}
			}
		}
		q := sums(r.IntN(len(y.Kinds)), from(r, 1, 1<<len(y.Places)-1), from(r, -9, 9))
		provesIs(t, "any", y, wrong, q, isProof(y, wrong, q), api.OK)
	})
	for _, n := range ints(closed, paper, more, less, accepted) {
		enough(t, "a kind of answer", n, 300)
	}
}

// TestAnyTruth is P9.6: papers tell any truth, but for some that are false.
func TestAnyTruth(t *testing.T) {
	some := 0
	many(t, 1500, func(r *rand.Rand) {
		y, x, wrong := randomCase(r, randomSize(r, 8))
		if !closedBy(y, wrong, x) {
			t.Fatalf("%+v is not closed by %v with %v", y, x, wrong)
		}
		closesIs(t, "a truth", y, wrong, true, api.OK)
		whyIs(t, "a truth", y, wrong, api.WaProof{}, api.ErrNone)
		for i := range y.Papers {
			if s, e := waste.Range(y, wrong, i); !within(x.went[i], s) || e != api.OK {
				t.Errorf("%+v with %v: Range of %d = %v, %d, without %d", y, wrong, i, s, e, x.went[i])
			}
		}
		for kind := range y.Kinds {
			if s, e := waste.Gone(y, wrong, kind); !within(goneIn(y, x, kind), s) || e != api.OK {
				t.Errorf("%+v with %v: Gone of %d = %v, %d, without %d", y, wrong, kind, s, e, goneIn(y, x, kind))
			}
		}
		fewest, e := waste.Fewest(y)
		if len(fewest) > len(wrong) || e != api.OK {
			t.Errorf("%+v with %v: Fewest = %v, %d", y, wrong, fewest, e)
		}
		must, e := waste.Must(y)
		for _, i := range must {
			if !slices.Contains(wrong, i) {
				t.Errorf("%+v with %v: Must = %v, %d", y, wrong, must, e)
			}
		}
		if len(must) > 0 {
			some++
		}
	})
	enough(t, "papers that must be false", some, 100)
}

// TestFewest is P9.3, P9.7 and P9.8: all lists of papers are looked at.
func TestFewest(t *testing.T) {
	down, several, must, none := 0, 0, 0, 0
	test := func(r *rand.Rand, papers int) {
		s := randomSize(r, 0)
		s.papers = papers
		y := randomYard(r, s)
		all := closings(y)
		if !all[len(all)-1] {
			fewestIs(t, "any", y, nil, api.ErrDown)
			mustIs(t, "any", y, nil, api.ErrDown)
			mayIs(t, "any", y, nil, api.ErrDown)
			down++
			return
		}
		sets := leastOf(all)
		fewestIs(t, "any", y, sets[0], api.OK)
		mustIs(t, "any", y, mustOf(all), api.OK)
		mayIs(t, "any", y, mayOf(all), api.OK)
		if len(sets) > 1 {
			several++
		}
		if len(mustOf(all)) > 0 {
			must++
		}
		if len(sets[0]) > 0 && len(mustOf(all)) == 0 {
			none++
		}
	}
	many(t, 1500, func(r *rand.Rand) { test(r, from(r, 0, 7)) })
	many(t, 40, func(r *rand.Rand) { test(r, from(r, 8, 10)) })
	enough(t, "yards that do not close with all papers false", down, 50)
	enough(t, "several least sets", several, 100)
	enough(t, "papers that must be false", must, 100)
	enough(t, "none that must be false", none, 100)
}

// TestMustAndMay is P9.8, with the package's own answers.
func TestMustAndMay(t *testing.T) {
	many(t, 300, func(r *rand.Rand) {
		y := randomYard(r, randomSize(r, 10))
		fewest, e := waste.Fewest(y)
		if e != api.OK {
			return
		}
		must, _ := waste.Must(y)
		may, _ := waste.May(y)
		closesIs(t, "Fewest", y, fewest, true, api.OK)
		all := allOf(y)
		for _, i := range all {
			closesIs(t, "all but one", y, without(all, i), !slices.Contains(must, i), api.OK)
			if slices.Contains(must, i) && !slices.Contains(may, i) {
				t.Errorf("%+v: Must = %v, May = %v", y, must, may)
			}
			if slices.Contains(fewest, i) && !slices.Contains(may, i) {
				t.Errorf("%+v: Fewest = %v, May = %v", y, fewest, may)
			}
			if slices.Contains(fewest, i) {
				closesIs(t, "one fewer", y, without(fewest, i), false, api.OK)
			}
		}
	})
}

// TestRangesAreReached is P9.4: there are truths with the ends of ranges, and none beyond them.
func TestRangesAreReached(t *testing.T) {
	open, wide, gone := 0, 0, 0
	many(t, 2500, func(r *rand.Rand) {
		y := randomYard(r, randomSize(r, 10))
		wrong := randomWrong(r, y)
		if _, does := truthOf(y, wrong); !does {
			for i := range y.Papers {
				rangeIs(t, "any", y, wrong, i, span(0, 0), api.ErrDown)
			}
			for kind := range y.Kinds {
				goneIs(t, "any", y, wrong, kind, span(0, 0), api.ErrDown)
			}
			open++
			return
		}
		reached := func(what string, i, kind int, s api.Span, e api.Errno) {
			for _, n := range ints(s.Lo, s.Hi) {
				if _, is := truthOf(y, wrong, limit{i, kind, span(n, n)}); !is || e != api.OK {
					t.Errorf("%+v with %v: %s of %d, %d = %v, %d; not %d", y, wrong, what, i, kind, s, e, n)
				}
			}
			for _, beyond := range []api.Span{span(-1<<40, s.Lo-1), span(s.Hi+1, 1<<40)} {
				if x, is := truthOf(y, wrong, limit{i, kind, beyond}); is {
					t.Errorf("%+v with %v: %s of %d, %d = %v, %d; but %v", y, wrong, what, i, kind, s, e, x)
				}
			}
		}
		for i, p := range y.Papers {
			s, e := waste.Range(y, wrong, i)
			reached("Range", i, p.Kind, s, e)
			if a := allows(y, wrong, i); a.Lo == a.Hi && s != a {
				t.Errorf("%+v with %v: Range of %d = %v", y, wrong, i, s)
			}
			if s.Lo < s.Hi {
				wide++
			}
		}
		for kind := range y.Kinds {
			s, e := waste.Gone(y, wrong, kind)
			reached("Gone", out, kind, s, e)
			if s.Lo < s.Hi {
				gone++
			}
		}
	})
	enough(t, "yards that do not close", open, 300)
	enough(t, "ranges with two ends", wide, 500)
	enough(t, "ranges of what is gone with two ends", gone, 500)
}

// TestMoreFalsePapers is P9.10: with more of them a yard that closed still does, and no range is narrower.
func TestMoreFalsePapers(t *testing.T) {
	wider := 0
	many(t, 1500, func(r *rand.Rand) {
		y := randomYard(r, randomSize(r, 10))
		wrong := randomWrong(r, y)
		if !closes(t, y, wrong) {
			return
		}
		more := append(randomWrong(r, y), wrong...)
		slices.Sort(more)
		more = slices.Compact(more)
		closesIs(t, "more", y, more, true, api.OK)
		narrower := func(what string, a, b api.Span) {
			if b.Lo > a.Lo || b.Hi < a.Hi {
				t.Errorf("%+v: %s is %v with %v, and %v with %v", y, what, a, wrong, b, more)
			}
			if a != b {
				wider++
			}
		}
		for i := range y.Papers {
			a, _ := waste.Range(y, wrong, i)
			b, _ := waste.Range(y, more, i)
			narrower("Range", a, b)
		}
		for kind := range y.Kinds {
			a, _ := waste.Gone(y, wrong, kind)
			b, _ := waste.Gone(y, more, kind)
			narrower("Gone", a, b)
		}
	})
	enough(t, "wider ranges", wider, 500)
}

// TestReached is P9.11: any number of the range of a journey, told by one of its papers, can be true; any other one cannot.
func TestReached(t *testing.T) {
	in, beyond := 0, 0
	many(t, 1500, func(r *rand.Rand) {
		y := randomYard(r, randomSize(r, 10))
		wrong := randomWrong(r, y)
		if !closes(t, y, wrong) {
			return
		}
		for _, i := range wrong {
			if other := y.Papers[i].Copy; other >= 0 && !slices.Contains(wrong, other) {
				continue
			}
			s, e := waste.Range(y, wrong, i)
			if e != api.OK {
				t.Errorf("%+v with %v: Range of %d: %d", y, wrong, i, e)
			}
			for _, n := range ints(s.Lo, s.Hi, from(r, s.Lo, s.Hi), s.Lo-1, s.Hi+1, from(r, 0, 1000000)) {
				if outOf(n, 0, 1000000) {
					continue
				}
				z := copyOf(y)
				z.Papers[i].Kilos = n
				closesIs(t, n, z, without(wrong, i), within(n, s), api.OK)
				if within(n, s) {
					in++
				} else {
					beyond++
				}
			}
		}
	})
	enough(t, "numbers of a range", in, 2000)
	enough(t, "numbers beyond it", beyond, 1000)
}

// alone is a yard with the papers and counts of one kind alone, and the papers that are false of this kind.
func alone(y api.WaYard, wrong []int, kind int) (z api.WaYard, own []int) {
	z = api.WaYard{Kinds: y.Kinds, Places: y.Places}
	at := map[int]int{-1: -1}
	for i, p := range y.Papers {
		if p.Kind == kind {
			at[i] = len(at) - 1
		}
	}
	for i, p := range y.Papers {
		if p.Kind == kind {
			p.Copy = at[p.Copy]
			z.Papers = append(z.Papers, p)
			if slices.Contains(wrong, i) {
				own = append(own, at[i])
			}
		}
	}
	other := func(c api.WaCount) bool { return c.Kind != kind }
	z.First = slices.DeleteFunc(slices.Clone(y.First), other)
	z.Last = slices.DeleteFunc(slices.Clone(y.Last), other)
	return z, own
}

// TestKinds is P9.12: kinds have nothing to do with each other.
func TestKinds(t *testing.T) {
	some := 0
	many(t, 1500, func(r *rand.Rand) {
		s := randomSize(r, 10)
		s.kinds = from(r, 2, 4)
		y := randomYard(r, s)
		wrong := randomWrong(r, y)
		all, any := true, false
		for kind := range y.Kinds {
			z, own := alone(y, wrong, kind)
			does := closes(t, z, own)
			all, any = all && does, any || does
		}
		closesIs(t, "all kinds", y, wrong, all, api.OK)
		if any && !all {
			some++
		}
		for kind := range y.Kinds {
			z, own := alone(y, wrong, kind)
			if !all {
				continue
			}
			gone, e := waste.Gone(y, wrong, kind)
			goneIs(t, "alone", z, own, kind, gone, e)
		}
	})
	enough(t, "yards of which just some kinds close", some, 200)
}

// TestKept is P9.12: what is gone is what was there, less what is left.
func TestKept(t *testing.T) {
	narrow := 0
	many(t, 3000, func(r *rand.Rand) {
		y, _, wrong := randomCase(r, size{from(r, 1, 2), from(r, 1, 4), from(r, 1, 8), ints(5, 1000)[r.IntN(2)]})
		for kind := range y.Kinds {
			gone, e := waste.Gone(y, wrong, kind)
			if e != api.OK {
				t.Errorf("%+v with %v: Gone: %d", y, wrong, e)
			}
			var was, is api.Span
			counted := true
			for place := range y.Places {
				a, _ := countAt(y.First, kind, place)
				b, at := countAt(y.Last, kind, place)
				was, is = span(was.Lo+a.Lo, was.Hi+a.Hi), span(is.Lo+b.Lo, is.Hi+b.Hi)
				counted = counted && at
			}
			if gone.Hi > was.Hi-is.Lo || counted && gone.Lo < was.Lo-is.Hi {
				t.Errorf("%+v with %v: Gone = %v; there was %v, and is %v", y, wrong, gone, was, is)
			}
			if counted && gone.Lo == was.Lo-is.Hi && gone.Lo < gone.Hi {
				narrow++
			}
		}
	})
	enough(t, "kinds of which all places are counted", narrow, 50)
}
