package crew_test

import (
	"slices"
	"strings"
	"testing"

	"orlop/api"
)

// partOf is a part and an index, or nothing with no error.
func partOf(part, at int, e api.Errno) (int, int) {
	if e == api.OK {
		return 0, 0
	}
	return part, at
}

// sized is a crew with so many workers and jobs.
func sized(workers, jobs int) api.CwCrew {
	c := alike(workers)
	for i := range jobs {
		c.Jobs = append(c.Jobs, job("j"+string(rune('0'+i)), 1, ints(0)))
	}
	return c
}

// TestCheckSizes is P10.1: how many workers and jobs there are.
func TestCheckSizes(t *testing.T) {
	for i, c := range []struct {
		workers, jobs int
		e             api.Errno
	}{
		{1, 1, api.OK},
		{4, 4, api.OK},
		{4, 1, api.OK},
		{1, 4, api.OK},
		{0, 1, api.ErrLong},
		{1, 0, api.ErrLong},
		{0, 0, api.ErrLong},
		{5, 1, api.ErrLong},
		{1, 5, api.ErrLong},
		{5, 5, api.ErrLong},
		{0, 5, api.ErrLong},
		{260, 4, api.ErrLong},
		{4, 257, api.ErrLong},
	} {
		x := sized(c.workers, c.jobs)
		part, at := partOf(1, 0, c.e)
		checks(t, i, x, part, at, c.e)
		if c.e != api.OK {
			allErrors(t, i, x, nil, c.e)
			allErrors(t, i, x, plan(done(-1)), c.e)
		}
	}
	if api.MaxCwWorkers != 4 || api.MaxCwSkills != 3 || api.MaxCwJobs != 4 || api.MaxCwParty != 2 || api.MaxCwHours != 12 || api.MaxCwWeek != 60 || api.MaxCwDays != 3 {
		t.Error("the limits are not those of the chapter")
	}
	if api.CwGood != 0 || api.CwSkill != 1 || api.CwTwice != 2 || api.CwLater != 3 || api.CwDay != 4 || api.CwWeek != 5 {
		t.Error("the reasons are not those of the chapter")
	}
	checks(t, "no crew at all", api.CwCrew{}, 1, 0, api.ErrLong)
	checks(t, "empty lists", crewOf(workers(), jobs()), 1, 0, api.ErrLong)
	checks(t, "many workers", api.CwCrew{Workers: make([]api.CwWorker, 100000), Jobs: sample().Jobs}, 1, 0, api.ErrLong)
	checks(t, "many jobs", api.CwCrew{Workers: sample().Workers, Jobs: make([]api.CwJob, 100000)}, 1, 0, api.ErrLong)
	checks(t, "the sample", sample(), 0, 0, api.OK)
}

// TestCheckNames is P10.1: the names of workers and jobs, of which the first one with an error counts.
func TestCheckNames(t *testing.T) {
	long := strings.Repeat("z", 16)
	for i, c := range []struct {
		names []string
		at    int
		e     api.Errno
	}{
		{[]string{"a"}, 0, api.OK},
		{[]string{""}, 0, api.ErrForm},
		{[]string{"-"}, 0, api.ErrForm},
		{[]string{"A"}, 0, api.ErrForm},
		{[]string{"1a"}, 0, api.ErrForm},
		{[]string{"a1"}, 0, api.OK},
		{[]string{"a b"}, 0, api.ErrForm},
		{[]string{"a\x00"}, 0, api.ErrForm},
		{[]string{"a\n"}, 0, api.ErrForm},
		{[]string{"ä"}, 0, api.ErrForm},
		{[]string{"\xff"}, 0, api.ErrForm},
		{[]string{long}, 0, api.OK},
		{[]string{long + "z"}, 0, api.ErrForm},
		{[]string{strings.Repeat("z", 1<<20)}, 0, api.ErrForm},
		{[]string{"a", "a"}, 1, api.ErrTwice},
		{[]string{"a", "b", "a"}, 2, api.ErrTwice},
		{[]string{"a", "b", "c", "a"}, 3, api.ErrTwice},
		{[]string{"a", "b", "c", "b"}, 3, api.ErrTwice},
		{[]string{"a", "b", "b", "a"}, 2, api.ErrTwice},
		{[]string{"a", "b", "c", "d"}, 0, api.OK},
		{[]string{"", ""}, 0, api.ErrForm},
		{[]string{"a", "", ""}, 1, api.ErrForm},
		{[]string{"a", "a", ""}, 1, api.ErrTwice},
		{[]string{"a", "", "a"}, 1, api.ErrForm},
		{[]string{"a", "b", "c", "?"}, 3, api.ErrForm},
	} {
		w := sized(len(c.names), 1)
		j := sized(1, len(c.names))
		for i, name := range c.names {
			w.Workers[i].Name = name
			j.Jobs[i].Name = name
		}
		part, at := partOf(2, c.at, c.e)
		checks(t, i, w, part, at, c.e)
		part, at = partOf(3, c.at, c.e)
		checks(t, i, j, part, at, c.e)
		if c.e != api.OK {
			allErrors(t, i, w, nil, c.e)
			allErrors(t, i, j, plan(done(9)), c.e)
		}
	}
	c := sized(4, 4)
	for i := range c.Jobs {
		c.Jobs[i].Name = c.Workers[i].Name
	}
	checks(t, "workers and jobs with the same names", c, 0, 0, api.OK)
}

// TestCheckWorkers is P10.1: workers, of whom the first one with an error counts.
func TestCheckWorkers(t *testing.T) {
	type row struct {
		l  []api.CwWorker
		at int
		e  api.Errno
	}
	ok := worker("ok", 1, 1, 1)
	rows := []row{
		{workers(worker("a", 0, 0, 0)), 0, api.OK},
		{workers(worker("a", 7, 12, 60)), 0, api.OK},
		{workers(worker("a", 4, 12, 0)), 0, api.OK},
		{workers(worker("a", 0, 0, 60)), 0, api.OK},
		{workers(worker("a", -1, 0, 0)), 0, api.ErrRange},
		{workers(worker("a", 8, 0, 0)), 0, api.ErrRange},
		{workers(worker("a", 0, -1, 0)), 0, api.ErrRange},
		{workers(worker("a", 0, 13, 0)), 0, api.ErrRange},
		{workers(worker("a", 0, 0, -1)), 0, api.ErrRange},
		{workers(worker("a", 0, 0, 61)), 0, api.ErrRange},
		{workers(ok, worker("a", 7, 12, 61), worker("b", 8, 0, 0)), 1, api.ErrRange},
		// Two errors at once.
		{workers(worker("", 8, 13, 61)), 0, api.ErrForm},
		{workers(ok, worker("ok", 8, 0, 0)), 1, api.ErrTwice},
		{workers(ok, worker("ok", 0, -1, 0)), 1, api.ErrTwice},
		{workers(ok, worker("a", 0, 13, 0), worker("", 0, 0, 0)), 1, api.ErrRange},
		{workers(ok, worker("a", 0, 0, 61), worker("a", 0, 0, 0)), 1, api.ErrRange},
		{workers(ok, worker("a", 0, 0, 0), worker("a", 0, 0, 0), worker("?", 9, 9, 9)), 2, api.ErrTwice},
	}
	for _, n := range far() {
		rows = append(rows,
			row{workers(ok, worker("a", n, 0, 0)), 1, api.ErrRange},
			row{workers(worker("a", 0, n, 0)), 0, api.ErrRange},
			row{workers(worker("a", 0, 0, n)), 0, api.ErrRange},
			row{workers(ok, ok, worker("a", n, n, n)), 1, api.ErrTwice},
			row{workers(worker("B", n, n, n)), 0, api.ErrForm})
	}
	for i, c := range rows {
		x := crewOf(c.l, jobs(job("j", 1, ints(0))))
		part, at := partOf(2, c.at, c.e)
		checks(t, i, x, part, at, c.e)
		if c.e != api.OK {
			allErrors(t, i, x, plan(done(0, 0)), c.e)
			allErrors(t, i, x, nil, c.e)
		}
	}
	for skills := range 8 {
		checks(t, skills, crewOf(workers(worker("a", skills, 6, 30)), jobs(job("j", 1, ints(0)))), 0, 0, api.OK)
	}
}

// TestCheckJobs is P10.1: jobs, of which the first one with an error counts.
func TestCheckJobs(t *testing.T) {
	type row struct {
		l  []api.CwJob
		at int
		e  api.Errno
	}
	a, b, c := job("a", 1, ints(0)), job("b", 1, ints(0)), job("c", 1, ints(0))
	last := func(hours int, party []int, after ...int) []api.CwJob {
		return jobs(a, b, c, job("d", hours, party, after...))
	}
	rows := []row{
		{jobs(a), 0, api.OK},
		{last(12, ints(2, 2), 0, 1, 2), 0, api.OK},
		{last(1, ints(0, 1), 2), 0, api.OK},
		{last(1, ints(2), 0, 2), 0, api.OK},
		{last(0, ints(0)), 3, api.ErrRange},
		{last(13, ints(0)), 3, api.ErrRange},
		{last(-1, ints(0)), 3, api.ErrRange},
		{last(1, nil), 3, api.ErrLong},
		{last(1, ints()), 3, api.ErrLong},
		{last(1, ints(0, 0, 0)), 3, api.ErrLong},
		{last(1, make([]int, 100000)), 3, api.ErrLong},
		{last(1, make([]int, 258)), 3, api.ErrLong},
		{last(1, ints(-1)), 3, api.ErrNone},
		{last(1, ints(3)), 3, api.ErrNone},
		{last(1, ints(0, 3)), 3, api.ErrNone},
		{last(1, ints(0, -1)), 3, api.ErrNone},
		{last(1, ints(0), -1), 3, api.ErrNone},
		{last(1, ints(0), 3), 3, api.ErrNone}, // its own index
		{last(1, ints(0), 4), 3, api.ErrNone},
		{last(1, ints(0), 0, 3), 3, api.ErrNone},
		{last(1, ints(0), 0, 1, 2, 3), 3, api.ErrNone},
		{jobs(job("a", 1, ints(0), 0)), 0, api.ErrNone},
		{jobs(job("a", 1, ints(0), 1), b), 0, api.ErrNone}, // behind it
		{jobs(a, job("b", 1, ints(0), 1)), 1, api.ErrNone},
		{jobs(a, job("b", 1, ints(0), 2), c), 1, api.ErrNone},
		{jobs(a, b, job("c", 1, ints(0), 2)), 2, api.ErrNone},
		{last(1, ints(0), 1, 0), 3, api.ErrArg},
		{last(1, ints(0), 0, 2, 1), 3, api.ErrArg},
		{last(1, ints(0), 2, 1, 0), 3, api.ErrArg},
		{last(1, ints(0), 1, 1), 3, api.ErrArg},
		{last(1, ints(0), 0, 1, 1), 3, api.ErrArg},
		{last(1, ints(0), 0, 1, 2, 2), 3, api.ErrArg},
		{last(1, ints(0), 0, 1, 2, 0, 1, 2), 3, api.ErrArg},
		{last(1, ints(0), make([]int, 100000)...), 3, api.ErrArg},
		{jobs(a, job("b", 1, ints(0), 0, 0)), 1, api.ErrArg},
		// Two errors at once.
		{jobs(job("", 0, nil)), 0, api.ErrForm},
		{jobs(a, job("a", 0, nil)), 1, api.ErrTwice},
		{last(0, nil), 3, api.ErrRange},
		{last(13, ints(7), 7), 3, api.ErrRange},
		{last(1, ints(7, 7, 7)), 3, api.ErrLong},
		{last(1, nil, 9), 3, api.ErrLong},
		{last(1, nil, 1, 0), 3, api.ErrLong},
		{last(1, ints(3), 1, 0), 3, api.ErrNone},
		{last(1, ints(0), 1, 0, 3), 3, api.ErrNone},
		{last(1, ints(0), 1, 1, -1), 3, api.ErrNone},
		{last(1, ints(0), 2, -1), 3, api.ErrNone},
		{jobs(a, job("b", 1, ints(0), 0, 0), job("a", 1, ints(0))), 1, api.ErrArg},
		{jobs(a, job("b", 1, ints(0), 1), job("?", 1, ints(0))), 1, api.ErrNone},
		{jobs(a, job("b", 1, nil), job("b", 1, ints(0))), 1, api.ErrLong},
		{jobs(a, job("b", 0, nil), job("b", 1, ints(0))), 1, api.ErrRange},
	}
	for _, n := range far() {
		rows = append(rows,
			row{last(n, ints(0)), 3, api.ErrRange},
			row{last(n, ints(n), n), 3, api.ErrRange},
			row{last(1, ints(n)), 3, api.ErrNone},
			row{last(1, ints(0, n)), 3, api.ErrNone},
			row{last(1, ints(0), n), 3, api.ErrNone},
			row{last(1, ints(0), 1, 0, n), 3, api.ErrNone},
			row{last(1, ints(0), n, 0), 3, api.ErrNone})
	}
	for i, c := range rows {
		x := crewOf(alike(2).Workers, c.l)
		part, at := partOf(3, c.at, c.e)
		checks(t, i, x, part, at, c.e)
		if c.e != api.OK {
			allErrors(t, i, x, nil, c.e)
			allErrors(t, i, x, plan(done(0, 0)), c.e)
		}
	}
}

// TestCheckOrder is P10.1 and R1: all of one part comes before the next one.
func TestCheckOrder(t *testing.T) {
	c := sized(4, 4)
	c.Jobs[3].Party = ints(3)
	c.Workers[3].Week = 61
	checks(t, "workers before jobs", c, 2, 3, api.ErrRange)
	c.Jobs = append(c.Jobs, job("e", 1, ints(0)))
	checks(t, "sizes before workers", c, 1, 0, api.ErrLong)
	c.Jobs = c.Jobs[:4]
	c.Workers[3].Week = 60
	checks(t, "jobs", c, 3, 3, api.ErrNone)
	c.Workers = nil
	checks(t, "no workers", c, 1, 0, api.ErrLong)
}

// TestErrorOfPlan is the error of a plan: how many elements it has, and then the first element with an error.
func TestErrorOfPlan(t *testing.T) {
	c := sample()
	type row struct {
		p []api.CwDone
		e api.Errno
	}
	rows := []row{
		{sampleP(), api.OK},
		{plan(done(2, 2, 2), done(2, 2), done(2, 2)), api.OK},
		{plan(done(0, 0, 0), done(0, 0), done(0, 0)), api.OK},
		{nil, api.ErrLong},
		{plan(), api.ErrLong},
		{sampleP()[:2], api.ErrLong},
		{append(sampleP(), done(0, 0)), api.ErrLong},
		{make([]api.CwDone, 100000), api.ErrLong},
		{make([]api.CwDone, 259), api.ErrLong},
		{plan(done(-1, 0, 2), done(0, 1), done(1, 0)), api.ErrRange},
		{plan(done(0, 0, 2), done(3, 1), done(1, 0)), api.ErrRange},
		{plan(done(0, 0, 2), done(0, 1), done(3, 0)), api.ErrRange},
		{plan(done(0, 0), done(0, 1), done(1, 0)), api.ErrLong},
		{plan(done(0), done(0, 1), done(1, 0)), api.ErrLong},
		{plan(done(0, 0, 2, 1), done(0, 1), done(1, 0)), api.ErrLong},
		{plan(done(0, 0, 2), done(0), done(1, 0)), api.ErrLong},
		{plan(done(0, 0, 2), done(0, 1, 2), done(1, 0)), api.ErrLong},
		{plan(done(0, 0, 2), done(0, 1), done(1, 0, 0)), api.ErrLong},
		{plan(done(0, 0, 2), done(0, 1), done(1, make([]int, 100000)...)), api.ErrLong},
		{plan(done(0, 0, 2), done(0, 1), done(1, make([]int, 257)...)), api.ErrLong},
		{plan(done(0, 3, 2), done(0, 1), done(1, 0)), api.ErrNone},
		{plan(done(0, 0, 3), done(0, 1), done(1, 0)), api.ErrNone},
		{plan(done(0, 0, -1), done(0, 1), done(1, 0)), api.ErrNone},
		{plan(done(0, 0, 2), done(0, -1), done(1, 0)), api.ErrNone},
		{plan(done(0, 0, 2), done(0, 1), done(1, 3)), api.ErrNone},
		// Two errors at once.
		{plan(done(-1), done(-1)), api.ErrLong},
		{plan(done(0, 9, 9), done(0, 1)), api.ErrLong},
		{plan(done(-1), done(0, 1), done(1, 0)), api.ErrRange},
		{plan(done(3, 3, 3), done(0, 1), done(1, 0)), api.ErrRange},
		{plan(done(0, 3), done(0, 1), done(1, 0)), api.ErrLong},
		{plan(done(0, 3, 3, 3), done(-1, 1), done(1, 0)), api.ErrLong},
		{plan(done(0, 3, 0), done(-1, 1), done(1, 0)), api.ErrNone},
		{plan(done(0, 0, 2), done(0, 7), done(9, 0)), api.ErrNone},
		{plan(done(0, 0, 2), done(0), done(9, 0)), api.ErrLong},
		{plan(done(0, 0, 2), done(9, 1), done(0)), api.ErrRange},
	}
	for _, n := range far() {
		rows = append(rows,
			row{plan(done(0, 0, 2), done(0, 1), done(n, 0)), api.ErrRange},
			row{plan(done(n, n), done(0, 1), done(0, 0)), api.ErrRange},
			row{plan(done(0, 0, 2), done(0, n), done(1, 0)), api.ErrNone},
			row{plan(done(0, n, n), done(n, 1), done(1, 0)), api.ErrNone})
	}
	for i, x := range rows {
		if x.e != api.OK {
			planErrors(t, i, c, x.p, x.e)
			bad := sample()
			bad.Jobs[2].After = ints(2)
			planErrors(t, i, bad, x.p, api.ErrNone)
			continue
		}
		hoursIs(t, i, c, x.p, hoursOf(c, x.p), api.OK)
	}
	// A plan that is not good has no error.
	whyIs(t, "a bad plan", c, plan(done(2, 2, 2), done(2, 2), done(2, 2)), api.CwSkill, 0, api.OK)
	one := sized(1, 1)
	planErrors(t, "one worker", one, plan(done(0, 1)), api.ErrNone)
	whyIs(t, "one worker", one, plan(done(0, 0)), api.CwGood, 0, api.OK)
	four := sized(4, 4)
	good := plan(done(0, 3), done(1, 3), done(2, 3), done(2, 3))
	whyIs(t, "four workers", four, good, api.CwGood, 0, api.OK)
	planErrors(t, "four workers", four, append(slices.Clone(good[:3]), done(2, 4)), api.ErrNone)
}
