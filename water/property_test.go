package water_test

import (
	"math/rand/v2"
	"slices"
	"testing"

	"orlop/api"
	"orlop/water"
)

// fine returns the yards of a function, which has no error.
func fine(t *testing.T, what string, l []int, e api.Errno) []int {
	t.Helper()
	if e != api.OK || !slices.IsSorted(l) {
		t.Errorf("%s returns %v, %d", what, l, e)
	}
	return l
}

// hear asks all functions but Ask; where no truth agrees, Agree alone.
func hear(t *testing.T, s api.WtShore, l []api.WtSample) (a answers) {
	t.Helper()
	agree, e := water.Agree(s, l)
	if e != api.OK {
		t.Errorf("Agree of %+v, %+v: %d", s, l, e)
	}
	if !agree {
		return a
	}
	a = answers{agree: true, can: map[int][]int{}}
	n, e := water.Sources(s, l)
	a.sources = fine(t, "Sources", n, e)
	n, e = water.Must(s, l)
	a.must = fine(t, "Must", n, e)
	n, e = water.Fewest(s, l)
	a.fewest = fine(t, "Fewest", n, e)
	for _, i := range foundOf(l) {
		n, e = water.Can(s, l, i)
		a.can[i] = fine(t, "Can", n, e)
	}
	return a
}

// same checks that two shores and lists of samples lead to the same yards; of samples, to maps their numbers.
func (a answers) same(t *testing.T, what string, b answers, to []int) {
	t.Helper()
	alike := a.agree == b.agree && slices.Equal(a.sources, b.sources) && slices.Equal(a.must, b.must) && slices.Equal(a.fewest, b.fewest)
	for i, can := range a.can {
		alike = alike && slices.Equal(can, b.can[to[i]])
	}
	if !alike {
		t.Errorf("%s: %+v, and %+v", what, a, b)
	}
}

// TestByWords is P12.2, P12.3 and P12.4: all truths are looked at, spill by spill.
func TestByWords(t *testing.T) {
	agree, not, must, sources, ties := 0, 0, 0, 0, 0
	var lengths [6]int
	test := func(r *rand.Rand, of sizes) {
		s := randomShore(r, of)
		l := randomSamples(r, s, 8)
		want, lists := answersOf(s, l)
		got := hear(t, s, l)
		if got.same(t, "by the words", want, places(0, 8)); t.Failed() {
			t.Errorf("%+v, %+v", s, l)
		}
		if !want.agree {
			errorsDown(t, "by the words", s, l)
			not++
			return
		}
		agree++
		must += len(want.must)
		sources += len(want.sources)
		lengths[len(want.fewest)]++
		if slices.ContainsFunc(lists, func(list []int) bool {
			return len(list) == len(want.fewest) && !slices.Equal(list, want.fewest)
		}) {
			ties++
		}
	}
	many(t, 1500, func(r *rand.Rand) {
		test(r, small(r))
		test(r, anySize(r))
	})
	enough(t, "samples that agree", agree, 2000)
	enough(t, "samples that do not", not, 300)
	enough(t, "yards that must be a source", must, 1000)
	enough(t, "yards that only can be one", sources-must, 500)
	enough(t, "several sets that are as small", ties, 300)
	for length, want := range ints(200, 800, 300, 40) {
		enough(t, "a number of yards that are needed", lengths[length], want)
	}
	enough(t, "four or five yards that are needed", lengths[4]+lengths[5], 2)
}

// TestAskByWords is P12.5: each sample that can be asked for is looked at in all truths.
func TestAskByWords(t *testing.T) {
	places, tides, kinds, twice, never, lefts := 0, 0, 0, 0, 0, [6]int{}
	many(t, 500, func(r *rand.Rand) {
		q := randomQuestion(r)
		where := q.places
		want, e := askOf(q.s, q.l, q.sample, where)
		askIs(t, "any", q.s, q.l, q.sample, where, want, e)
		if e != api.OK {
			never++
			return
		}
		lefts[want.left]++
		places += min(1, want.at)
		tides += min(1, want.tide)
		kinds += want.kind
		if slices.Index(where, where[want.at]) != want.at {
			t.Errorf("%v: the place %d is told before, too", where, want.at)
		}
		if slices.Contains(where[want.at+1:], where[want.at]) {
			twice++
		}
	})
	enough(t, "no truth", never, 20)
	enough(t, "places behind the first one", places, 20)
	enough(t, "later tides", tides, 15)
	enough(t, "the other kind", kinds, 15)
	enough(t, "places told twice", twice, 30)
	for left, want := range ints(0, 100, 40, 10) {
		enough(t, "a number of yards that are left", lefts[left], want)
	}
}

// question is a shore, samples, the number of one that is Found, and places to ask for.
type question struct {
	s      api.WtShore
	l      []api.WtSample
	sample int
	places []int
}

// randomQuestion is any question, or one whose answer can tell yards apart.
func randomQuestion(r *rand.Rand) question {
	if r.IntN(2) == 0 {
		return apart(r)
	}
	for {
		s := randomShore(r, oneOf(r, small(r), anySize(r)))
		l := randomSamples(r, s, oneOf(r, 1, 2, 3, 7))
		if found := foundOf(l); len(found) > 0 {
			return question{s, l, oneOf(r, found...), randomPlaces(r, s, l)}
		}
	}
}

// apart is a question of a sample that either of two yards can be in, if water drifts farther, or not so far. A third yard, of the other kind, can surely be in another one.
func apart(r *rand.Rand) (q question) {
	spread, lo, tide := from(r, 0, 3), from(r, -10, 4), r.IntN(3)
	q.s = shoreOf(spread, make([]api.Span, 3), yard("a", from(r, 20, 60), 1))
	q.s.Drifts[tide] = span(lo, lo+6)
	near := q.s.Yards[0].At
	next := near + 2*spread + from(r, 1, 6)
	q.s.Yards = append(q.s.Yards, yard("b", next, 1), yard("c", from(r, 20, 80), 2))
	place := from(r, next+lo-spread, near+lo+6+spread)
	q.l = samples(foundAt(place, tide, 0))
	if spread == 3 {
		q.l = append(q.l, foundAt(q.s.Yards[2].At+lo+3, tide, 1))
	}
	for range from(r, 1, 4) {
		q.places = append(q.places, oneOf(r, place, place, q.l[len(q.l)-1].Place)+from(r, -8, 8))
	}
	if r.IntN(2) == 0 {
		q.s, q.l, q.places = turned(q.s, q.l, q.places)
	}
	return q
}

// randomPlaces is places to ask for: often that of a sample, or one twice.
func randomPlaces(r *rand.Rand, s api.WtShore, l []api.WtSample) (where []int) {
	for range from(r, 1, 4) {
		place := randomPlace(r, s, r.IntN(len(s.Drifts)))
		switch {
		case r.IntN(4) == 0:
			place = oneOf(r, l...).Place
		case len(where) > 0 && r.IntN(4) == 0:
			place = oneOf(r, where...)
		}
		where = append(where, place)
	}
	return where
}

// told checks what samples that tell a truth lead to.
func told(t *testing.T, s api.WtShore, l []api.WtSample, u real, a answers, spilt []int, in [][]int) {
	t.Helper()
	if !a.agree || !among(a.must, spilt) {
		t.Errorf("%+v, %+v tell %+v: %+v", s, l, u, a)
	}
	for i, can := range a.can {
		if !among(in[i], can) || !among(in[i], a.sources) {
			t.Errorf("%+v, %+v tell %+v: the yards %v are in %d, not %v of %v", s, l, u, in[i], i, can, a.sources)
		}
	}
}

// TestEveryTruth is P12.6: all truths of small shores, drift by drift, and with each set of spills.
func TestEveryTruth(t *testing.T) {
	all, must := 0, 0
	many(t, 300, func(r *rand.Rand) {
		s := randomShore(r, sizes{3, 2, 2, 15})
		l := make([]api.WtSample, from(r, 1, 4))
		for i := range l {
			l[i] = randomSample(r, s)
		}
		heard := map[int]answers{}
		winds(s, func(d []int) {
			u := real{drifts: d, spills: make([]bool, len(spillsOf(s, nil, d)))}
			for set := range 1 << len(u.spills) {
				for i := range u.spills {
					u.spills[i] = set>>i&1 == 1
				}
				spilt, in := tell(s, l, u)
				found := setOf(foundOf(l))
				if _, known := heard[found]; !known {
					heard[found] = hear(t, s, l)
				}
				told(t, s, l, u, heard[found], spilt, in)
				all++
				must += len(heard[found].must)
			}
		})
	})
	enough(t, "truths", all, 50000)
	enough(t, "yards that must be a source", must, 50000)
}

// TestAnyTruth is P12.6 for shores of any size.
func TestAnyTruth(t *testing.T) {
	found, must := 0, 0
	many(t, 2000, func(r *rand.Rand) {
		s := randomShore(r, anySize(r))
		l := randomSamples(r, s, 8)
		u := randomTruth(r, s)
		spilt, in := tell(s, l, u)
		a := hear(t, s, l)
		told(t, s, l, u, a, spilt, in)
		found += len(a.can)
		must += len(a.must)
	})
	enough(t, "samples that are Found", found, 2000)
	enough(t, "yards that must be a source", must, 500)
}

// idle is a shore whose yards of a list alone can spill.
func idle(s api.WtShore, yards []int) api.WtShore {
	s = copyShore(s)
	for i := range s.Yards {
		if !slices.Contains(yards, i) {
			s.Yards[i].Kinds = 0
		}
	}
	return s
}

// agreed returns whether some truth agrees.
func agreed(t *testing.T, s api.WtShore, l []api.WtSample) bool {
	t.Helper()
	is, e := water.Agree(s, l)
	if e != api.OK {
		t.Errorf("Agree of %+v, %+v: %d", s, l, e)
	}
	return is
}

// TestMustAndIdle is P12.7: a yard must be a source just if no truth agrees if it can spill nothing; and that which alone can be in a sample.
func TestMustAndIdle(t *testing.T) {
	must, not, alone := 0, 0, 0
	many(t, 3000, func(r *rand.Rand) {
		s := randomShore(r, anySize(r))
		l := randomSamples(r, s, 8)
		a := hear(t, s, l)
		if !a.agree {
			return
		}
		for i := range s.Yards {
			others := slices.DeleteFunc(places(0, len(s.Yards)-1), func(k int) bool { return k == i })
			is := slices.Contains(a.must, i)
			if agreed(t, idle(s, others), l) == is {
				t.Errorf("%+v, %+v: Must is %v, which is not so of %d", s, l, a.must, i)
			}
			if is {
				must++
			} else {
				not++
			}
		}
		for i, can := range a.can {
			if len(can) == 0 {
				t.Errorf("%+v, %+v: no yard can be in %d", s, l, i)
			}
			if len(can) == 1 {
				alone++
				if !among(can, a.must) {
					t.Errorf("%+v, %+v: %v alone can be in %d, but Must is %v", s, l, can, i, a.must)
				}
			}
		}
	})
	enough(t, "yards that must be a source", must, 1000)
	enough(t, "others", not, 1000)
	enough(t, "yards that alone can be in a sample", alone, 1000)
}

// TestFewestExplain is P12.8: the yards of Fewest explain the samples, and no fewer ones do, nor those of a list that comes before it.
func TestFewestExplain(t *testing.T) {
	before, none := 0, 0
	many(t, 2000, func(r *rand.Rand) {
		s := randomShore(r, anySize(r))
		l := randomSamples(r, s, 8)
		a := hear(t, s, l)
		for set := range 1 << len(s.Yards) {
			list := listOf(set)
			explain := agreed(t, idle(s, list), l)
			switch order := shorter(list, a.fewest); {
			case explain && !a.agree:
				t.Errorf("%+v, %+v: %v explain them, but no truth agrees", s, l, list)
			case !a.agree:
				none++
			case order == 0 && !explain:
				t.Errorf("%+v, %+v: Fewest is %v, which do not explain them", s, l, a.fewest)
			case order < 0 && explain:
				t.Errorf("%+v, %+v: Fewest is %v, but %v explain them", s, l, a.fewest, list)
			case order < 0:
				before++
			case !explain && among(a.fewest, list):
				t.Errorf("%+v, %+v: %v explain them, but %v do not", s, l, a.fewest, list)
			}
		}
		if a.agree && (!among(a.must, a.fewest) || !among(a.fewest, a.sources)) {
			t.Errorf("%+v, %+v: %+v", s, l, a)
		}
	})
	enough(t, "lists before the first one", before, 3000)
	enough(t, "lists where no truth agrees", none, 3000)
}

// TestOneMore is P12.9: a further sample takes yards from those that can be in one, and from those that need not be a source.
func TestOneMore(t *testing.T) {
	taken, added, grown, never, still := 0, 0, 0, 0, 0
	many(t, 8000, func(r *rand.Rand) {
		s := randomShore(r, anySize(r))
		l := randomSamples(r, s, 7)
		a, b := hear(t, s, l), hear(t, s, with(l, randomSample(r, s)))
		switch {
		case !a.agree:
			still++
			if b.agree {
				t.Errorf("%+v, %+v: no truth agreed, but with one sample more some does", s, l)
			}
			return
		case !b.agree:
			never++
			return
		}
		if !among(a.must, b.must) || len(b.fewest) < len(a.fewest) {
			t.Errorf("%+v, %+v: %+v, and with one sample more %+v", s, l, a, b)
		}
		for i, can := range a.can {
			if !among(b.can[i], can) {
				t.Errorf("%+v, %+v: %v can be in %d, with one sample more %v", s, l, can, i, b.can[i])
			}
			taken += len(can) - len(b.can[i])
		}
		added += len(b.must) - len(a.must)
		grown += len(b.fewest) - len(a.fewest)
	})
	for _, n := range ints(taken, added, grown, never, still) {
		enough(t, "a kind of further samples", n, 300)
	}
}

// TestNextSample is P12.10: whatever the sample shows that is asked for, as many yards at most can be in the given one; for any other one some find leaves as many, and for an earlier one more.
func TestNextSample(t *testing.T) {
	fewer, more := 0, 0
	many(t, 600, func(r *rand.Rand) {
		q := randomQuestion(r)
		s, l, sample, where := q.s, q.l, q.sample, q.places
		at, tide, kind, left, e := water.Ask(s, l, sample, where)
		if !agreed(t, s, l) {
			askIs(t, "no truth", s, l, sample, where, asked{}, api.ErrDown)
			return
		}
		if e != api.OK || left < 1 || left > len(s.Yards) {
			t.Errorf("Ask of %+v, %+v, %d at %v = %d, %d, %d, %d, %d", s, l, sample, where, at, tide, kind, left, e)
			return
		}
		before := true
		for i, place := range where {
			for k := range s.Drifts {
				for m := range 2 {
					n := finds(t, s, l, sample, cleanAt(place, k, m))
					switch this := i == at && k == tide && m == kind; {
					case this && n != left, !this && n < left, before && !this && n == left:
						t.Errorf("%+v, %+v, %d: %d, %d, %d leaves %d, and Ask says %d, %d, %d leaves %d", s, l, sample, i, k, m, n, at, tide, kind, left)
					case this:
						before = false
					case n > left:
						more++
					}
				}
			}
		}
		if can, _ := water.Can(s, l, sample); left < len(can) {
			fewer++
		}
	})
	enough(t, "fewer yards", fewer, 50)
	enough(t, "samples that leave more", more, 200)
}

// finds is how many yards at most can be in a sample, whatever a further one shows.
func finds(t *testing.T, s api.WtShore, l []api.WtSample, sample int, further api.WtSample) (most int) {
	t.Helper()
	for _, found := range []bool{true, false} {
		further.Found = found
		can, e := water.Can(s, with(l, further), sample)
		if e != api.OK && e != api.ErrDown {
			t.Errorf("Can of %+v, %+v, %+v: %d", s, l, further, e)
		}
		most = max(most, len(can))
	}
	return most
}

// TestAnyOrder is P12.11: in any order, and told twice, samples lead to the same.
func TestAnyOrder(t *testing.T) {
	agree, twice := 0, 0
	many(t, 2000, func(r *rand.Rand) {
		s := randomShore(r, anySize(r))
		l := randomSamples(r, s, 7)
		to := r.Perm(len(l))
		m := make([]api.WtSample, len(l))
		for i, k := range to {
			m[k] = l[i]
		}
		for len(l) > 0 && len(m) < 8 && r.IntN(3) > 0 {
			m = append(m, oneOf(r, l...))
			twice++
		}
		a := hear(t, s, l)
		a.same(t, "in another order", hear(t, s, m), to)
		if !a.agree {
			return
		}
		agree++
		if found := foundOf(l); len(found) > 0 && len(m) < 8 {
			i, where := oneOf(r, found...), randomPlaces(r, s, l)
			at, tide, kind, left, e := water.Ask(s, l, i, where)
			askIs(t, "in another order", s, m, to[i], where, asked{at, tide, kind, left}, e)
		}
	})
	enough(t, "samples that agree", agree, 1000)
	enough(t, "samples told twice", twice, 1000)
}

// turned is a shore, samples and places measured from the other end of the shore.
func turned(s api.WtShore, l []api.WtSample, where []int) (api.WtShore, []api.WtSample, []int) {
	s, l, where = copyShore(s), slices.Clone(l), slices.Clone(where)
	for i := range s.Yards {
		s.Yards[i].At = 100 - s.Yards[i].At
	}
	for i, d := range s.Drifts {
		s.Drifts[i] = span(-d.Hi, -d.Lo)
	}
	for i := range l {
		l[i].Place = 100 - l[i].Place
	}
	for i := range where {
		where[i] = 100 - where[i]
	}
	return s, l, where
}

// moved is a shore, samples and places that are moved by a length.
func moved(s api.WtShore, l []api.WtSample, where []int, by int) (api.WtShore, []api.WtSample, []int) {
	s, l, where = copyShore(s), slices.Clone(l), slices.Clone(where)
	for i := range s.Yards {
		s.Yards[i].At += by
	}
	for i := range l {
		l[i].Place += by
	}
	for i := range where {
		where[i] += by
	}
	return s, l, where
}

// TestTurnedAndMoved is P12.12: measured from the other end of the shore, and moved, yards are the same ones.
func TestTurnedAndMoved(t *testing.T) {
	agree, far := 0, 0
	many(t, 1500, func(r *rand.Rand) {
		q := randomQuestion(r)
		s, l, i, where := q.s, q.l, q.sample, q.places
		all := slices.Clone(where)
		for _, y := range s.Yards {
			all = append(all, y.At)
		}
		for _, x := range l {
			all = append(all, x.Place)
		}
		by := from(r, -slices.Min(all), 100-slices.Max(all))
		far += max(by, -by) / 10
		a := hear(t, s, l)
		if a.agree {
			agree++
		}
		at, tide, kind, left, e := water.Ask(s, l, i, where)
		test := func(what string, s api.WtShore, l []api.WtSample, where []int) {
			a.same(t, what, hear(t, s, l), places(0, len(l)))
			askIs(t, what, s, l, i, where, asked{at, tide, kind, left}, e)
		}
		u, m, other := turned(s, l, where)
		test("turned", u, m, other)
		u, m, other = moved(s, l, where, by)
		test("moved", u, m, other)
	})
	enough(t, "samples that agree", agree, 1000)
	enough(t, "tens by which they are moved", far, 1000)
}

// wider is a shore whose drifts are wider, and whose yards have more kinds.
func wider(r *rand.Rand, s api.WtShore) api.WtShore {
	s = copyShore(s)
	for i, d := range s.Drifts {
		lo := from(r, max(-10, d.Hi-6), d.Lo)
		if r.IntN(2) == 0 {
			lo = d.Lo
		}
		s.Drifts[i] = span(lo, from(r, d.Hi, min(10, lo+6)))
	}
	for i := range s.Yards {
		s.Yards[i].Kinds |= oneOf(r, 0, 0, 1, 2)
	}
	return s
}

// TestWider is P12.13: with wider drifts and more kinds no yard is taken from those that can be a source, nor from those that can be in a sample, and none is added to those that must be one.
func TestWider(t *testing.T) {
	added, taken, first := 0, 0, 0
	many(t, 4000, func(r *rand.Rand) {
		s := randomShore(r, anySize(r))
		l := randomSamples(r, s, 8)
		w := wider(r, s)
		a, b := hear(t, s, l), hear(t, w, l)
		if !a.agree {
			if b.agree {
				first++
			}
			return
		}
		if !b.agree || !among(a.sources, b.sources) || !among(b.must, a.must) || len(b.fewest) > len(a.fewest) {
			t.Errorf("%+v, %+v: %+v; along %+v: %+v", s, l, a, w, b)
		}
		for i, can := range a.can {
			if !among(can, b.can[i]) {
				t.Errorf("%+v, %+v: %v can be in %d; along %+v %v", s, l, can, i, w, b.can[i])
			}
		}
		added += len(b.sources) - len(a.sources)
		taken += len(a.must) - len(b.must)
	})
	enough(t, "yards that now can be a source", added, 500)
	enough(t, "yards that need not be one any more", taken, 300)
	enough(t, "samples that agree now", first, 50)
}
