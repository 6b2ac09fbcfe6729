package crew_test

import (
	"testing"

	"orlop/api"
)

// TestExamples is the chapter's section Examples.
func TestExamples(t *testing.T) {
	c := sample()
	hoursIs(t, "P", c, sampleP(), [][]int{{3, 4, 0}, {3, 0, 0}, {3, 0, 0}}, api.OK)
	of := func(tank, pipe, deck api.CwDone) []api.CwDone { return plan(tank, pipe, deck) }
	tank, pipe, deck := done(0, 0, 2), done(0, 1), done(1, 0)
	whyIs(t, "P", c, of(tank, pipe, deck), api.CwGood, 0, api.OK)
	whyIs(t, "pipe by ann", c, of(tank, done(0, 0), deck), api.CwDay, 0, api.OK)
	whyIs(t, "pipe by cid", c, of(tank, done(0, 2), deck), api.CwSkill, 1, api.OK)
	whyIs(t, "deck on 0", c, of(tank, pipe, done(0, 0)), api.CwLater, 2, api.OK)
	whyIs(t, "tank by ann and ann", c, of(done(0, 0, 0), pipe, deck), api.CwTwice, 0, api.OK)
	whyIs(t, "tank by bob and cid", c, of(done(0, 1, 2), done(0, 1), deck), api.CwWeek, 1, api.OK)
	floorIs(t, "C", c, 2, 0, api.OK)
	shortestIs(t, "C", c, sampleP(), 2, api.OK)
	awayIs(t, "C", c, ints(1), api.OK)
}

// TestAwayOfExample is what the chapter says of the example: without bob, ann does pipe on the day 1, and cid deck.
func TestAwayOfExample(t *testing.T) {
	c := sample()
	c.Workers = append(c.Workers[:1:1], c.Workers[2])
	shortestIs(t, "without bob", c, plan(done(0, 0, 1), done(1, 0), done(1, 1)), 2, api.OK)
	awayIs(t, "without bob", c, nil, api.OK)
	c = sample()
	c.Workers = c.Workers[1:]
	shortestIs(t, "without ann", c, nil, 0, api.ErrDown)
	awayIs(t, "without ann", c, nil, api.ErrDown)
}

// TestHours is P10.2: hours are of good plans and others; a worker twice a member counts twice, one with no job has none.
func TestHours(t *testing.T) {
	c := crewOf(workers(worker("a", 1, 0, 0), worker("b", 0, 0, 0), worker("c", 7, 12, 60)), jobs(job("j", 12, ints(0, 1)), job("k", 7, ints(2)), job("l", 1, ints(0, 0), 1)))
	for i, x := range []struct {
		p    []api.CwDone
		want [][]int
	}{
		{plan(done(0, 0, 0), done(0, 0), done(0, 0, 0)), [][]int{{33, 0, 0}, {0, 0, 0}, {0, 0, 0}}},
		{plan(done(2, 1, 1), done(1, 1), done(2, 1, 2)), [][]int{{0, 0, 0}, {0, 7, 25}, {0, 0, 1}}},
		{plan(done(0, 0, 1), done(1, 2), done(2, 2, 2)), [][]int{{12, 0, 0}, {12, 0, 0}, {0, 7, 2}}},
		{plan(done(1, 2, 0), done(1, 0), done(1, 0, 1)), [][]int{{0, 20, 0}, {0, 1, 0}, {0, 12, 0}}},
	} {
		hoursIs(t, i, c, x.p, x.want, api.OK)
	}
	most := crewOf(alike(1).Workers, jobs(job("a", 12, ints(0, 0)), job("b", 12, ints(0, 0)), job("c", 12, ints(0, 0)), job("d", 12, ints(0, 0))))
	hoursIs(t, "all by one", most, plan(done(2, 0, 0), done(2, 0, 0), done(2, 0, 0), done(2, 0, 0)), [][]int{{0, 0, 96}}, api.OK)
}

// TestReasons is P10.2: each reason alone, with later ones too, and with its first job or worker.
func TestReasons(t *testing.T) {
	// a and b have the skill 0, c has 1 and 2; a has 5 hours a day and 7 a week, b has 6 and 6, c has 12 and 20.
	c := crewOf(
		workers(worker("a", 1, 5, 7), worker("b", 1, 6, 6), worker("c", 6, 12, 20)),
		jobs(job("j", 3, ints(0)), job("k", 4, ints(0, 1)), job("l", 2, ints(0, 0), 0), job("m", 5, ints(2), 0, 2)))
	good := plan(done(0, 0), done(0, 1, 2), done(1, 0, 1), done(2, 2))
	for i, x := range []struct {
		change  map[int]api.CwDone
		why, at int
	}{
		{nil, api.CwGood, 0},
		{map[int]api.CwDone{0: done(0, 2)}, api.CwSkill, 0},
		{map[int]api.CwDone{1: done(0, 2, 2)}, api.CwSkill, 1}, // twice, too
		{map[int]api.CwDone{1: done(0, 2, 1)}, api.CwSkill, 1}, // in the wrong places
		{map[int]api.CwDone{1: done(0, 1, 0)}, api.CwSkill, 1},
		{map[int]api.CwDone{2: done(0, 0, 2)}, api.CwSkill, 2}, // not later, too
		{map[int]api.CwDone{3: done(2, 0)}, api.CwSkill, 3},
		{map[int]api.CwDone{3: done(0, 0)}, api.CwSkill, 3},
		{map[int]api.CwDone{1: done(0, 0, 0), 3: done(2, 1)}, api.CwSkill, 1},
		{map[int]api.CwDone{2: done(1, 0, 0), 3: done(2, 1)}, api.CwSkill, 3}, // twice in an earlier job
		{map[int]api.CwDone{2: done(1, 1, 1), 1: done(2, 1, 2)}, api.CwTwice, 2},
		{map[int]api.CwDone{2: done(1, 0, 0)}, api.CwTwice, 2},
		{map[int]api.CwDone{2: done(0, 1, 1), 0: done(2, 0), 3: done(0, 2)}, api.CwTwice, 2}, // nothing is later, too
		{map[int]api.CwDone{2: done(0, 0, 1)}, api.CwLater, 2},
		{map[int]api.CwDone{3: done(1, 2)}, api.CwLater, 3},
		{map[int]api.CwDone{3: done(0, 2)}, api.CwLater, 3},
		{map[int]api.CwDone{0: done(1, 0)}, api.CwLater, 2},
		{map[int]api.CwDone{0: done(2, 0)}, api.CwLater, 2}, // and 3
		{map[int]api.CwDone{2: done(2, 0, 1)}, api.CwLater, 3},
		{map[int]api.CwDone{2: done(0, 0, 1), 0: done(1, 0)}, api.CwLater, 2},
		{map[int]api.CwDone{2: done(2, 0, 1), 1: done(2, 1, 2)}, api.CwLater, 3},
		{map[int]api.CwDone{1: done(0, 0, 2)}, api.CwDay, 0},                    // 7 of 5 hours, and 9 of 7
		{map[int]api.CwDone{0: done(0, 1)}, api.CwDay, 1},                       // 7 of 6 hours, and 9 of 6
		{map[int]api.CwDone{1: done(1, 0, 2)}, api.CwDay, 0},                    // 6 of 5 hours
		{map[int]api.CwDone{1: done(2, 0, 2)}, api.CwWeek, 0},                   // 9 of 7 hours
		{map[int]api.CwDone{0: done(0, 1), 1: done(1, 0, 2)}, api.CwDay, 0},     // just on the day 1
		{map[int]api.CwDone{0: done(0, 1), 1: done(2, 1, 2)}, api.CwWeek, 1},    // 9 of 6 hours
		{map[int]api.CwDone{0: done(0, 1), 1: done(1, 1, 2)}, api.CwWeek, 1},    // 3 and 6 hours
		{map[int]api.CwDone{0: done(0, 1)}, api.CwDay, 1},                       // the week of b comes later
		{map[int]api.CwDone{1: done(2, 1, 2), 2: done(1, 1, 0)}, api.CwGood, 0}, // in other places
	} {
		p := copyPlan(good)
		for job, d := range x.change {
			p[job] = d
		}
		whyIs(t, i, c, p, x.why, x.at, api.OK)
	}
}

// TestTwiceCountsTwice is a worker twice a member of one job: that is told first, and the hours count twice.
func TestTwiceCountsTwice(t *testing.T) {
	c := crewOf(workers(worker("a", 1, 5, 5)), jobs(job("j", 3, ints(0, 0))))
	whyIs(t, "twice", c, plan(done(0, 0, 0)), api.CwTwice, 0, api.OK)
	hoursIs(t, "twice", c, plan(done(0, 0, 0)), [][]int{{6, 0, 0}}, api.OK)
	shortestIs(t, "a party of two of one worker", c, nil, 0, api.ErrDown)
	awayIs(t, "a party of two of one worker", c, nil, api.ErrDown)
}

// TestLimitsOfHours is hours just at Day and at Week, and one above.
func TestLimitsOfHours(t *testing.T) {
	one := plan(done(1, 0))
	for i, x := range []struct{ day, week, hours, why int }{
		{4, 4, 4, api.CwGood},
		{3, 4, 4, api.CwDay},
		{4, 3, 4, api.CwWeek},
		{3, 3, 4, api.CwDay},
		{0, 0, 1, api.CwDay},
		{1, 0, 1, api.CwWeek},
		{0, 60, 1, api.CwDay},
		{12, 12, 12, api.CwGood},
		{12, 60, 12, api.CwGood},
		{11, 60, 12, api.CwDay},
		{12, 11, 12, api.CwWeek},
		{1, 1, 1, api.CwGood},
	} {
		c := solo(x.day, x.week, x.hours)
		whyIs(t, i, c, one, x.why, 0, api.OK)
		if x.why == api.CwGood {
			shortIs(t, i, c, shortest{days: 1, first: plan(done(0, 0))})
		} else {
			shortIs(t, i, c, shortest{})
		}
	}
	for i, x := range []struct {
		day, week int
		want      []api.CwDone
	}{
		{9, 9, plan(done(0, 0), done(0, 0), done(0, 0))},
		{8, 9, plan(done(0, 0), done(0, 0), done(1, 0))},
		{7, 9, plan(done(0, 0), done(0, 0), done(1, 0))},
		{6, 9, plan(done(0, 0), done(1, 0), done(0, 0))},
		{5, 9, plan(done(0, 0), done(1, 0), done(1, 0))},
		{4, 9, plan(done(0, 0), done(1, 0), done(2, 0))},
		{3, 9, nil},
		{9, 8, nil},
		{12, 8, nil},
		{4, 8, nil},
	} {
		c := solo(x.day, x.week, 4, 3, 2)
		shortIs(t, i, c, shortest{days: daysOf(x.want), first: x.want})
	}
}

// TestChains is P10.3 and P10.4: jobs after others, chains of one job and of all.
func TestChains(t *testing.T) {
	for i, x := range []struct {
		after [4][]int
		days  int
		want  []int // the days of the shortest plan; none if no plan is good
	}{
		{[4][]int{}, 1, ints(0, 0, 0, 0)},
		{[4][]int{1: {0}}, 2, ints(0, 1, 0, 0)},
		{[4][]int{3: {2}}, 2, ints(0, 0, 0, 1)},
		{[4][]int{3: {0, 1, 2}}, 2, ints(0, 0, 0, 1)},
		{[4][]int{1: {0}, 2: {0}, 3: {0}}, 2, ints(0, 1, 1, 1)},
		{[4][]int{1: {0}, 3: {2}}, 2, ints(0, 1, 0, 1)},
		{[4][]int{1: {0}, 2: {1}}, 3, ints(0, 1, 2, 0)},
		{[4][]int{1: {0}, 2: {0, 1}, 3: {0}}, 3, ints(0, 1, 2, 1)},
		{[4][]int{2: {0}, 3: {1, 2}}, 3, ints(0, 0, 1, 2)},
		{[4][]int{2: {0, 1}, 3: {2}}, 3, ints(0, 0, 1, 2)},
		{[4][]int{1: {0}, 2: {1}, 3: {2}}, 4, nil},
		{[4][]int{1: {0}, 2: {0, 1}, 3: {0, 1, 2}}, 4, nil},
		{[4][]int{1: {0}, 2: {0, 1}, 3: {2}}, 4, nil},
		{[4][]int{1: {0}, 2: {1}, 3: {0, 2}}, 4, nil},
	} {
		c := crewOf(alike(1).Workers, jobs(job("a", 1, ints(0)), job("b", 1, ints(0)), job("c", 1, ints(0)), job("d", 1, ints(0))))
		for j := range c.Jobs {
			c.Jobs[j].After = x.after[j]
		}
		skills := 0
		if x.days == 1 {
			skills = 1 // 4 hours of 12
		}
		floorIs(t, i, c, x.days, skills, api.OK)
		var want []api.CwDone
		for _, day := range x.want {
			want = append(want, done(day, 0))
		}
		shortIs(t, i, c, shortest{days: len(x.want) / 4 * x.days, first: want})
	}
	floorIs(t, "one job", solo(12, 60, 1), 1, 1, api.OK)
}

// TestFloor is P10.3: needs and sums at their edges, bounds of whole days and one hour more, and sets with no need.
func TestFloor(t *testing.T) {
	two := func(day, week int, party []int, hours int) api.CwCrew {
		return crewOf(workers(worker("a", 1, day, week), worker("b", 2, day, week)), jobs(job("j", hours, party), job("k", hours, party)))
	}
	chained := func(c api.CwCrew) api.CwCrew {
		for i := 1; i < len(c.Jobs); i++ {
			c.Jobs[i].After = ints(i - 1)
		}
		return c
	}
	for i, x := range []struct {
		c            api.CwCrew
		days, skills int
		e            api.Errno
	}{
		// The need is the sum of Week, and one above.
		{solo(12, 10, 10), 1, 1, api.OK},
		{solo(12, 9, 10), 0, 0, api.ErrDown},
		{solo(12, 40, 10, 10, 10, 10), 4, 1, api.OK},
		{solo(12, 39, 10, 10, 10, 10), 0, 0, api.ErrDown},
		{solo(12, 0, 1), 0, 0, api.ErrDown},
		// The sum of Day is 0, with and without a need.
		{solo(0, 60, 1), 0, 0, api.ErrDown},
		{crewOf(workers(worker("a", 1, 0, 0), worker("b", 2, 1, 9)), jobs(job("j", 1, ints(1)))), 1, 2, api.OK},
		{crewOf(workers(worker("a", 1, 0, 9), worker("b", 2, 1, 9)), jobs(job("j", 1, ints(0)))), 0, 0, api.ErrDown},
		{crewOf(workers(worker("a", 1, 0, 9), worker("b", 3, 1, 9)), jobs(job("j", 1, ints(0)))), 1, 1, api.OK},
		// Nobody has the skill.
		{crewOf(workers(worker("a", 3, 12, 60)), jobs(job("j", 1, ints(2)))), 0, 0, api.ErrDown},
		{crewOf(workers(worker("a", 0, 12, 60)), jobs(job("j", 1, ints(0)))), 0, 0, api.ErrDown},
		// A bound is a whole number of days, and one hour more.
		{solo(6, 60, 6, 6), 2, 1, api.OK},
		{solo(6, 60, 6, 7), 3, 1, api.OK},
		{solo(6, 60, 6, 5), 2, 1, api.OK},
		{solo(6, 60, 6), 1, 1, api.OK},
		{solo(6, 60, 7), 2, 1, api.OK}, // though no plan is good
		{solo(1, 60, 12, 12, 12, 12), 48, 1, api.OK},
		// The bound is below the longest chain, the same, and above.
		{chained(solo(12, 60, 4, 4)), 2, 0, api.OK},
		{chained(solo(12, 60, 12, 12)), 2, 1, api.OK},
		{chained(solo(8, 60, 12, 12)), 3, 1, api.OK},
		{chained(solo(12, 60, 1, 1, 1, 1)), 4, 0, api.OK},
		{chained(solo(1, 60, 1, 1, 1, 1)), 4, 1, api.OK},
		{chained(solo(1, 60, 1, 1, 1, 2)), 5, 1, api.OK},
		// The least set that tells it.
		{two(4, 60, ints(0, 1), 2), 1, 1, api.OK},
		{two(4, 60, ints(1, 1), 2), 2, 2, api.OK},
		{two(4, 60, ints(1), 2), 1, 2, api.OK},
		{two(5, 60, ints(0, 1), 3), 2, 1, api.OK},
		{two(5, 60, ints(1, 1), 3), 3, 2, api.OK},
		{two(12, 12, ints(1, 1), 3), 1, 2, api.OK},
		{two(12, 11, ints(1, 1), 3), 0, 0, api.ErrDown},
		// Only together two skills have too few workers: a has both.
		{crewOf(workers(worker("a", 3, 4, 9)), jobs(job("j", 4, ints(0)), job("k", 4, ints(1)))), 2, 3, api.OK},
		{crewOf(workers(worker("a", 3, 4, 7)), jobs(job("j", 4, ints(0)), job("k", 4, ints(1)))), 0, 0, api.ErrDown},
		{crewOf(workers(worker("a", 7, 4, 12)), jobs(job("j", 4, ints(0)), job("k", 4, ints(1)), job("l", 4, ints(2)))), 3, 7, api.OK},
		{crewOf(workers(worker("a", 7, 4, 11)), jobs(job("j", 4, ints(0)), job("k", 4, ints(1)), job("l", 4, ints(2)))), 0, 0, api.ErrDown},
		{crewOf(workers(worker("a", 6, 4, 12), worker("b", 1, 4, 12)), jobs(job("j", 4, ints(0)), job("k", 4, ints(1)), job("l", 4, ints(2)))), 2, 6, api.OK},
		{crewOf(workers(worker("a", 5, 4, 12), worker("b", 2, 4, 12)), jobs(job("j", 4, ints(0)), job("k", 4, ints(1)), job("l", 4, ints(2)))), 2, 5, api.OK},
	} {
		floorIs(t, i, x.c, x.days, x.skills, x.e)
	}
}

// TestWhichPlan is P10.4: of several plans with as few days the first one, by Day ahead of Members.
func TestWhichPlan(t *testing.T) {
	all := alike(3).Workers
	tired := workers(worker("a", 1, 3, 9), worker("b", 1, 3, 9), worker("c", 1, 3, 9))
	for i, x := range []struct {
		c    api.CwCrew
		want []api.CwDone
	}{
		{crewOf(all, jobs(job("j", 1, ints(0)), job("k", 1, ints(1)))), plan(done(0, 0), done(0, 0))},
		{crewOf(all, jobs(job("j", 1, ints(0, 1)), job("k", 1, ints(2, 2)))), plan(done(0, 0, 1), done(0, 0, 1))},
		// The day is compared ahead of the members: b does k on the day 0, though a could on the day 1.
		{crewOf(tired, jobs(job("j", 3, ints(0)), job("k", 3, ints(0)), job("l", 1, ints(0), 0))), plan(done(0, 0), done(0, 1), done(1, 0))},
		{crewOf(tired, jobs(job("j", 3, ints(0)), job("k", 2, ints(0)), job("l", 1, ints(0), 0))), plan(done(0, 0), done(0, 1), done(1, 0))},
		{crewOf(tired, jobs(job("j", 2, ints(0)), job("k", 2, ints(0)), job("l", 1, ints(0)))), plan(done(0, 0), done(0, 1), done(0, 0))},
		// An earlier job comes first, also if a later one has later days or members by that.
		{crewOf(tired[:2], jobs(job("j", 2, ints(0)), job("k", 3, ints(0)), job("l", 3, ints(0)))), plan(done(0, 0), done(0, 1), done(1, 0))},
		{crewOf(tired[:1], jobs(job("j", 2, ints(0)), job("k", 3, ints(0)))), plan(done(0, 0), done(1, 0))},
		// The first one who has the skill is wanted elsewhere.
		{crewOf(workers(worker("a", 3, 3, 9), worker("b", 1, 3, 9)), jobs(job("j", 3, ints(0)), job("k", 3, ints(1)))), plan(done(0, 1), done(0, 0))},
		{crewOf(workers(worker("a", 3, 3, 3), worker("b", 1, 3, 9)), jobs(job("j", 3, ints(0)), job("k", 3, ints(1), 0))), plan(done(0, 1), done(1, 0))},
		{crewOf(workers(worker("a", 3, 3, 9), worker("b", 1, 3, 9)), jobs(job("j", 3, ints(0, 1)))), plan(done(0, 1, 0))},
		{crewOf(workers(worker("a", 3, 3, 9), worker("b", 1, 3, 9)), jobs(job("j", 3, ints(1, 0)))), plan(done(0, 0, 1))},
		{crewOf(all, jobs(job("j", 12, ints(0, 0)), job("k", 12, ints(0)), job("l", 12, ints(0, 0)))), plan(done(0, 0, 1), done(0, 2), done(1, 0, 1))},
		// Fewer days come before everything else.
		{crewOf(workers(worker("a", 1, 2, 9), worker("b", 1, 2, 9)), jobs(job("j", 1, ints(0)), job("k", 1, ints(0)), job("l", 1, ints(0)), job("m", 1, ints(0)))), plan(done(0, 0), done(0, 0), done(0, 1), done(0, 1))},
	} {
		shortestIs(t, i, x.c, x.want, daysOf(x.want), api.OK)
		if s := shortestOf(x.c); !samePlans(s.first, x.want) {
			t.Errorf("%d: the first of all plans is %v", i, s.first)
		}
	}
}

// TestAway is P10.4: workers of whom none, some and all can stay away.
func TestAway(t *testing.T) {
	for i, x := range []struct {
		c    api.CwCrew
		want []int
		e    api.Errno
	}{
		{solo(12, 60, 1), nil, api.OK}, // the only one
		{crewOf(alike(2).Workers, jobs(job("j", 1, ints(0)))), ints(0, 1), api.OK},
		{crewOf(alike(4).Workers, jobs(job("j", 1, ints(0)), job("k", 12, ints(2, 2)))), ints(0, 1, 2, 3), api.OK},
		{crewOf(alike(3).Workers, jobs(job("j", 12, ints(0, 1)))), ints(0, 1, 2), api.OK},
		{crewOf(alike(2).Workers, jobs(job("j", 12, ints(0, 1)))), nil, api.OK},
		{crewOf(workers(worker("a", 0, 12, 60), worker("b", 1, 12, 60)), jobs(job("j", 1, ints(0)))), ints(0), api.OK}, // no skill
		{crewOf(workers(worker("a", 1, 0, 60), worker("b", 1, 12, 60)), jobs(job("j", 1, ints(0)))), ints(0), api.OK},  // no hours
		{crewOf(workers(worker("a", 1, 12, 0), worker("b", 1, 12, 60)), jobs(job("j", 1, ints(0)))), ints(0), api.OK},
		{crewOf(workers(worker("a", 1, 0, 0), worker("b", 2, 12, 60)), jobs(job("j", 1, ints(0)))), nil, api.ErrDown},
		// One could do all, but not on one day.
		{crewOf(workers(worker("a", 1, 4, 60), worker("b", 1, 4, 60)), jobs(job("j", 4, ints(0)), job("k", 4, ints(0)))), nil, api.OK},
		{crewOf(workers(worker("a", 1, 4, 60), worker("b", 1, 4, 60), worker("c", 1, 3, 60)), jobs(job("j", 4, ints(0)), job("k", 4, ints(0)))), ints(2), api.OK},
		{crewOf(workers(worker("a", 1, 4, 60), worker("b", 1, 4, 60), worker("c", 1, 4, 60)), jobs(job("j", 4, ints(0)), job("k", 4, ints(0)))), ints(0, 1, 2), api.OK},
		// A chain takes two days whoever does it.
		{crewOf(workers(worker("a", 1, 4, 60), worker("b", 1, 4, 60)), jobs(job("j", 4, ints(0)), job("k", 4, ints(0), 0))), ints(0, 1), api.OK},
		{crewOf(workers(worker("a", 1, 4, 60), worker("b", 1, 4, 7)), jobs(job("j", 4, ints(0)), job("k", 4, ints(0), 0))), ints(1), api.OK},
		{crewOf(workers(worker("a", 1, 4, 7), worker("b", 1, 4, 7)), jobs(job("j", 4, ints(0)), job("k", 4, ints(0), 0))), nil, api.OK},
		{crewOf(workers(worker("a", 3, 4, 60), worker("b", 1, 4, 60), worker("c", 2, 4, 60)), jobs(job("j", 2, ints(0)), job("k", 2, ints(1)))), ints(0, 1, 2), api.OK},
		{crewOf(workers(worker("a", 3, 4, 60), worker("b", 1, 4, 60)), jobs(job("j", 2, ints(0)), job("k", 2, ints(1)))), ints(1), api.OK},
	} {
		awayIs(t, i, x.c, x.want, x.e)
	}
}

// TestDays is crews for which good plans have 1 day, 2 and MaxCwDays, and for which none is good though Floor tells no error.
func TestDays(t *testing.T) {
	shortIs(t, "one day", solo(12, 60, 3, 3, 3, 3), shortest{days: 1, first: plan(done(0, 0), done(0, 0), done(0, 0), done(0, 0))})
	shortIs(t, "two days", solo(11, 60, 3, 3, 3, 3), shortest{days: 2, first: plan(done(0, 0), done(0, 0), done(0, 0), done(1, 0))})
	shortIs(t, "three days", solo(5, 60, 3, 3, 3), shortest{days: 3, first: plan(done(0, 0), done(1, 0), done(2, 0))})
	four := solo(5, 60, 3, 3, 3, 3)
	floorIs(t, "four days", four, 3, 1, api.OK)
	shortIs(t, "four days", four, shortest{})
	floorIs(t, "four whole days", solo(3, 60, 3, 3, 3, 3), 4, 1, api.OK)
	shortIs(t, "four whole days", solo(3, 60, 3, 3, 3, 3), shortest{})
	long := solo(6, 60, 7)
	floorIs(t, "a job that is longer than a day", long, 2, 1, api.OK)
	shortIs(t, "a job that is longer than a day", long, shortest{})
	// Two workers have the hours together, but the party needs two at once.
	pair := crewOf(workers(worker("a", 1, 12, 60), worker("b", 2, 12, 60)), jobs(job("j", 1, ints(0, 0))))
	floorIs(t, "a party of one", pair, 1, 1, api.OK)
	shortIs(t, "a party of one", pair, shortest{})
	// The week is enough for all together, but nobody has enough of it alone.
	halves := crewOf(workers(worker("a", 1, 4, 3), worker("b", 1, 4, 3)), jobs(job("j", 4, ints(0))))
	floorIs(t, "half a job each", halves, 1, 1, api.OK)
	shortIs(t, "half a job each", halves, shortest{})
}
