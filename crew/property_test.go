package crew_test

import (
	"math/rand/v2"
	"slices"
	"testing"

	"orlop/api"
	"orlop/crew"
)

// found is what Shortest returns; no days with ErrDown.
func found(t *testing.T, c api.CwCrew) ([]api.CwDone, int) {
	t.Helper()
	p, days, e := crew.Shortest(c)
	if e != api.OK && e != api.ErrDown {
		t.Errorf("Shortest of %+v: %d", c, e)
	}
	return p, days
}

// notLonger checks that a crew has a plan with at most so many days; no days ask for nothing.
func notLonger(t *testing.T, what string, c api.CwCrew, days int) {
	t.Helper()
	if _, d := found(t, c); days > 0 && (d == 0 || d > days) {
		t.Errorf("%s: %+v has %d days; before %d", what, c, d, days)
	}
}

// TestHoursAndWhy is P10.2 and P10.9: plans of all sorts, by the chapter's words.
func TestHoursAndWhy(t *testing.T) {
	var met [6]int
	several := 0
	many(t, 20000, func(r *rand.Rand) {
		c := randomCrew(r, 4, 4)
		p := randomPlan(r, c)
		hours := hoursOf(c, p)
		hoursIs(t, "any", c, p, hours, api.OK)
		want, sum := 0, 0
		for i, j := range c.Jobs {
			want += j.Hours * len(p[i].Members)
		}
		for _, of := range hours {
			sum += total(of)
		}
		if sum != want {
			t.Errorf("%+v with %v: %d hours; want %d", c, p, sum, want)
		}
		l := append(findings(c, p), finding{})
		whyIs(t, "any", c, p, l[0].why, l[0].at, api.OK)
		met[l[0].why]++
		if len(l) > 2 && l[1].why != l[0].why {
			several++
		}
	})
	for why, n := range met {
		enough(t, "a reason", n, 300+why)
	}
	enough(t, "several reasons", several, 1000)
}

// TestFloorByWords is P10.3: by the chapter's words.
func TestFloorByWords(t *testing.T) {
	var met [9]int
	chain, down := 0, 0
	many(t, 20000, func(r *rand.Rand) {
		c := randomCrew(r, 4, 4)
		days, skills, e := floorOf(c)
		floorIs(t, "any", c, days, skills, e)
		switch {
		case e != api.OK:
			down++
		case skills == 0:
			chain++
		default:
			met[skills]++
		}
	})
	for skills := 1; skills < 8; skills++ {
		enough(t, "a set of skills", met[skills], 50)
	}
	enough(t, "a chain", chain, 500)
	enough(t, "ErrDown", down, 500)
}

// TestAgainstPlans is P10.4, P10.6 and P10.8: all plans of small crews are looked at.
func TestAgainstPlans(t *testing.T) {
	var met [4]int
	var away [5]int
	several := 0
	test := func(r *rand.Rand, workers, jobs int) {
		c := randomCrew(r, workers, jobs)
		s := shortestOf(c)
		shortIs(t, "all plans", c, s)
		met[s.days]++
		if s.days > 0 {
			away[len(s.away)]++
		}
		if s.number > 1 {
			several++
		}
	}
	many(t, 1500, func(r *rand.Rand) {
		test(r, 4, 2)
		test(r, 2, 3)
	})
	many(t, 150, func(r *rand.Rand) {
		test(r, 3, 3)
	})
	for _, n := range met {
		enough(t, "a number of days", n, 50)
	}
	for _, n := range away[:4] {
		enough(t, "a number of workers who can stay away", n, 50)
	}
	enough(t, "several shortest plans", several, 500)
}

// TestAgainstSearch is P10.4, P10.6 and P10.8 for crews with up to as many workers and jobs as there can be, with plans that are found in another way.
func TestAgainstSearch(t *testing.T) {
	var met [4]int
	many(t, 8000, func(r *rand.Rand) {
		c := randomCrew(r, 4, 4)
		s := searchedOf(c)
		shortIs(t, "a search", c, s)
		if len(c.Workers)+len(c.Jobs) > 6 {
			met[s.days]++
		}
		if whole := len(c.Workers) + len(c.Jobs); whole <= 4 {
			if of := shortestOf(c); of.days != s.days || !samePlans(of.first, s.first) || !slices.Equal(of.away, s.away) {
				t.Errorf("%+v: the search found %+v; of all plans %+v are the shortest", c, s, of)
			}
		}
	})
	for _, n := range met {
		enough(t, "a number of days of a large crew", n, 50)
	}
}

// TestNobodyAboveALimit is P10.5: the plan of Shortest keeps to each limit, skill and day, looked at one by one.
func TestNobodyAboveALimit(t *testing.T) {
	some := 0
	many(t, 8000, func(r *rand.Rand) {
		c := randomCrew(r, 4, 4)
		p, days := found(t, c)
		if days == 0 {
			return
		}
		some++
		whyIs(t, "the shortest", c, p, api.CwGood, 0, api.OK)
		if days != daysOf(p) || len(p) != len(c.Jobs) {
			t.Errorf("%+v: %d days of %v", c, days, p)
		}
		var day [4][3]int
		var week [4]int
		for i, d := range p {
			j := c.Jobs[i]
			for place, m := range d.Members {
				if !hasSkill(c, m, j.Party[place]) || slices.Index(d.Members, m) != place {
					t.Errorf("%+v: the job %d of %v has a wrong party", c, i, p)
				}
				day[m][d.Day] += j.Hours
				week[m] += j.Hours
			}
			for _, before := range j.After {
				if p[before].Day >= d.Day {
					t.Errorf("%+v: the job %d of %v is too early", c, i, p)
				}
			}
		}
		for m, w := range c.Workers {
			if slices.Max(day[m][:]) > w.Day || week[m] > w.Week {
				t.Errorf("%+v: %d is above a limit in %v", c, m, p)
			}
		}
	})
	enough(t, "crews with a plan", some, 2000)
}

// TestProof is P10.7: no good plan has fewer days than Floor says, and its skills prove it by themselves.
func TestProof(t *testing.T) {
	just, more, none, down := 0, 0, 0, 0
	many(t, 8000, func(r *rand.Rand) {
		c := randomCrew(r, 4, 4)
		_, days := found(t, c)
		floor, skills, e := crew.Floor(c)
		if e != api.OK {
			down++
			if days != 0 {
				t.Errorf("%+v: Floor has the error %d, but a plan has %d days", c, e, days)
			}
			return
		}
		switch need, day, _ := needOf(c, skills); {
		case skills != 0 && (need <= day*(floor-1) || need > day*floor):
			t.Errorf("%+v: Floor = %d by the skills %d, which need %d hours of %d a day", c, floor, skills, need, day)
		case skills == 0 && floor != longestOf(c):
			t.Errorf("%+v: Floor = %d, but the longest chain %d", c, floor, longestOf(c))
		}
		switch {
		case days == 0:
			none++
		case days < floor:
			t.Errorf("%+v: Floor = %d, but a plan has %d days", c, floor, days)
		case days == floor:
			just++
		default:
			more++
		}
	})
	for _, n := range ints(just, more, none, down) {
		enough(t, "a kind of floor", n, 50)
	}
}

// TestWhoIsAway is P10.8: without a worker of Away the others have a plan with as few days; without another one they have none.
func TestWhoIsAway(t *testing.T) {
	can, longer, never := 0, 0, 0
	many(t, 4000, func(r *rand.Rand) {
		c := randomCrew(r, 4, 4)
		_, days := found(t, c)
		away, e := crew.Away(c)
		if days == 0 || len(c.Workers) == 1 {
			if len(away) != 0 || (e == api.ErrDown) != (days == 0) {
				t.Errorf("%+v: Away = %v, %d", c, away, e)
			}
			return
		}
		for w := range c.Workers {
			others := copyOf(c)
			others.Workers = slices.Delete(others.Workers, w, w+1)
			_, without := found(t, others)
			if slices.Contains(away, w) != (without == days) {
				t.Errorf("%+v: Away = %v, but without %d there are %d days of %d", c, away, w, without, days)
			}
			switch {
			case without == days:
				can++
			case without == 0:
				never++
			case without < days:
				t.Errorf("%+v: fewer days without %d", c, w)
			default:
				longer++
			}
		}
	})
	for _, n := range ints(can, longer, never) {
		enough(t, "workers of a kind", n, 50)
	}
}

// TestOneJobLess is P10.10: with less to do, or with more who can do it, no plan is longer.
func TestOneJobLess(t *testing.T) {
	some := 0
	many(t, 4000, func(r *rand.Rand) {
		c := randomCrew(r, 4, 4)
		_, days := found(t, c)
		if days > 1 {
			some++
		}
		if n := len(c.Jobs); n > 1 {
			less := copyOf(c)
			less.Jobs = less.Jobs[:n-1]
			notLonger(t, "one job less", less, days)
		}
		if len(c.Workers) < 4 {
			more := copyOf(c)
			w := worker("further", r.IntN(8), r.IntN(13), r.IntN(61))
			more.Workers = slices.Insert(more.Workers, r.IntN(len(c.Workers)+1), w)
			notLonger(t, "a further worker", more, days)
		}
		more := copyOf(c)
		w := &more.Workers[r.IntN(len(c.Workers))]
		switch r.IntN(3) {
		case 0:
			w.Skills |= 1 << r.IntN(3)
		case 1:
			w.Day = from(r, w.Day, 12)
		case 2:
			w.Week = from(r, w.Week, 60)
		}
		notLonger(t, "more of a worker", more, days)
	})
	enough(t, "crews with several days", some, 200)
}

// TestOtherNames is P10.11: with other names all is the same, and if workers change places the days are.
func TestOtherNames(t *testing.T) {
	moved := 0
	many(t, 4000, func(r *rand.Rand) {
		c := randomCrew(r, 4, 4)
		p := randomPlan(r, c)
		other := copyOf(c)
		for i := range other.Workers {
			other.Workers[i].Name = "z" + string(rune('9'-i))
		}
		for i := range other.Jobs {
			other.Jobs[i].Name = other.Workers[0].Name + string(rune('a'+i))
		}
		a := call(arguments{crew: c, plan: p})
		if b := call(arguments{crew: other, plan: p}); !a.same(b) {
			t.Errorf("%+v and %+v with other names", a, b)
		}
		order := r.Perm(len(c.Workers))
		mixed, back := copyOf(c), copyPlan(p)
		for i, w := range c.Workers {
			mixed.Workers[order[i]] = w
		}
		for i := range back {
			for place, m := range back[i].Members {
				back[i].Members[place] = order[m]
			}
		}
		b := call(arguments{crew: mixed, plan: back})
		if a.days != b.days || a.floor != b.floor || a.skills != b.skills || a.errors != b.errors || a.why != b.why {
			t.Errorf("%+v and %+v in other places", a, b)
		}
		var away []int
		for _, w := range a.away {
			away = append(away, order[w])
		}
		slices.Sort(away)
		if !slices.Equal(away, b.away) {
			t.Errorf("%+v: Away = %v; in other places %v", c, a.away, b.away)
		}
		for w, hours := range a.hours {
			if !slices.Equal(b.hours[order[w]], hours) {
				t.Errorf("%+v: Hours = %v; in other places %v", c, a.hours, b.hours)
			}
		}
		if len(a.plan) > 0 && !samePlans(a.plan, b.plan) {
			moved++
		}
	})
	enough(t, "plans that are others then", moved, 200)
}

// TestADayLater is P10.12: a good plan is good a day later.
func TestADayLater(t *testing.T) {
	some := 0
	many(t, 6000, func(r *rand.Rand) {
		c := randomCrew(r, 4, 4)
		p, _ := found(t, c)
		if q := randomPlan(r, c); good(c, q) {
			p = q
		}
		for days := daysOf(p); days > 0 && days < 3; days++ {
			for i := range p {
				p[i].Day++
			}
			whyIs(t, "a day later", c, p, api.CwGood, 0, api.OK)
			some++
		}
	})
	enough(t, "plans a day later", some, 1000)
}
