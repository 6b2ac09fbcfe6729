package crew_test

import (
	"math/rand/v2"
	"reflect"
	"slices"
	"testing"

	"orlop/api"
	"orlop/crew"
)

const (
	least    = -1 << 63
	greatest = 1<<63 - 1
)

// far is numbers that are in no range of the chapter.
func far() []int {
	return []int{least, least + 1, -1 << 62, -1 << 32, -1<<32 + 1, -1 << 31, -2, 1 << 31, 1 << 32, 1<<32 + 1, 1<<62 + 1, greatest - 1, greatest}
}

func ints(l ...int) []int { return l }

func worker(name string, skills, day, week int) api.CwWorker {
	return api.CwWorker{Name: name, Skills: skills, Day: day, Week: week}
}

func workers(l ...api.CwWorker) []api.CwWorker { return l }

func job(name string, hours int, party []int, after ...int) api.CwJob {
	return api.CwJob{Name: name, Hours: hours, Party: party, After: after}
}

func jobs(l ...api.CwJob) []api.CwJob { return l }

func crewOf(w []api.CwWorker, j []api.CwJob) api.CwCrew { return api.CwCrew{Workers: w, Jobs: j} }

func done(day int, members ...int) api.CwDone { return api.CwDone{Day: day, Members: members} }

func plan(l ...api.CwDone) []api.CwDone { return l }

// sample and sampleP are C and P of the chapter's examples.
func sample() api.CwCrew {
	return crewOf(
		workers(worker("ann", 3, 4, 8), worker("bob", 1, 6, 5), worker("cid", 2, 4, 12)),
		jobs(job("tank", 3, ints(0, 1)), job("pipe", 3, ints(0)), job("deck", 4, ints(1), 0)))
}

func sampleP() []api.CwDone { return plan(done(0, 0, 2), done(0, 1), done(1, 0)) }

// alike is a crew with so many workers, of whom each has all skills and no limit that matters, and no jobs.
func alike(n int) (c api.CwCrew) {
	for i := range n {
		c.Workers = append(c.Workers, worker("w"+string(rune('0'+i)), 7, 12, 60))
	}
	return c
}

// solo is a crew with one worker and some jobs, of the skill 0.
func solo(day, week int, hours ...int) api.CwCrew {
	c := crewOf(workers(worker("w", 1, day, week)), nil)
	for i, h := range hours {
		c.Jobs = append(c.Jobs, job("j"+string(rune('0'+i)), h, ints(0)))
	}
	return c
}

func copyPlan(l []api.CwDone) []api.CwDone {
	l = slices.Clone(l)
	for i := range l {
		l[i].Members = slices.Clone(l[i].Members)
	}
	return l
}

func copyOf(c api.CwCrew) api.CwCrew {
	c.Workers, c.Jobs = slices.Clone(c.Workers), slices.Clone(c.Jobs)
	for i := range c.Jobs {
		c.Jobs[i].Party, c.Jobs[i].After = slices.Clone(c.Jobs[i].Party), slices.Clone(c.Jobs[i].After)
	}
	return c
}

func samePlans(a, b []api.CwDone) bool {
	return slices.EqualFunc(a, b, func(x, y api.CwDone) bool { return x.Day == y.Day && slices.Equal(x.Members, y.Members) })
}

func sameHours(a, b [][]int) bool { return slices.EqualFunc(a, b, slices.Equal) }

// hoursOf is the hours of each worker on each day, by the chapter's words.
func hoursOf(c api.CwCrew, p []api.CwDone) (hours [][]int) {
	for w := range c.Workers {
		of := make([]int, 3)
		for i, d := range p {
			for _, m := range d.Members {
				if m == w {
					of[d.Day] += c.Jobs[i].Hours
				}
			}
		}
		hours = append(hours, of)
	}
	return hours
}

func hasSkill(c api.CwCrew, w, skill int) bool { return c.Workers[w].Skills>>skill&1 == 1 }

func total(l []int) (sum int) {
	for _, n := range l {
		sum += n
	}
	return sum
}

// finding is why a plan is not good, and which job or worker comes with it.
type finding struct{ why, at int }

// findings is all that applies to a plan, in the order of the chapter.
func findings(c api.CwCrew, p []api.CwDone) (l []finding) {
	for i, d := range p {
		for place, m := range d.Members {
			if !hasSkill(c, m, c.Jobs[i].Party[place]) {
				l = append(l, finding{api.CwSkill, i})
			}
		}
	}
	for i, d := range p {
		if len(d.Members) == 2 && d.Members[0] == d.Members[1] {
			l = append(l, finding{api.CwTwice, i})
		}
	}
	for i, d := range p {
		for _, before := range c.Jobs[i].After {
			if d.Day <= p[before].Day {
				l = append(l, finding{api.CwLater, i})
			}
		}
	}
	hours := hoursOf(c, p)
	for w, x := range c.Workers {
		for _, h := range hours[w] {
			if h > x.Day {
				l = append(l, finding{api.CwDay, w})
			}
		}
	}
	for w, x := range c.Workers {
		if total(hours[w]) > x.Week {
			l = append(l, finding{api.CwWeek, w})
		}
	}
	return l
}

func good(c api.CwCrew, p []api.CwDone) bool { return len(findings(c, p)) == 0 }

// daysOf is the days of a plan.
func daysOf(p []api.CwDone) (days int) {
	for _, d := range p {
		days = max(days, d.Day+1)
	}
	return days
}

// parties is all lists of members of a job, in the order in which they are compared.
func parties(c api.CwCrew, i int) (l [][]int) {
	for a := range c.Workers {
		if len(c.Jobs[i].Party) == 1 {
			l = append(l, ints(a))
			continue
		}
		for b := range c.Workers {
			l = append(l, ints(a, b))
		}
	}
	return l
}

// plans calls a function with all plans of a crew in their order, as long as it wants more. The plan that it is handed is not its own.
func plans(c api.CwCrew, want func(p []api.CwDone) bool) {
	p := make([]api.CwDone, len(c.Jobs))
	var all [][][]int
	for i := range c.Jobs {
		all = append(all, parties(c, i))
	}
	var next func(i int) bool
	next = func(i int) bool {
		if i == len(p) {
			return want(p)
		}
		for day := range 3 {
			for _, members := range all[i] {
				p[i] = done(day, members...)
				if !next(i + 1) {
					return false
				}
			}
		}
		return true
	}
	next(0)
}

// shortest is what is known of the shortest good plans.
type shortest struct {
	days, number int // no days if no plan is good
	first        []api.CwDone
	away         []int
}

// shortestOf looks at all plans.
func shortestOf(c api.CwCrew) (s shortest) {
	free := map[int]bool{}
	plans(c, func(p []api.CwDone) bool {
		days := daysOf(p)
		if s.days != 0 && days > s.days || !good(c, p) {
			return true
		}
		if s.days == 0 || days < s.days {
			s = shortest{days: days, first: copyPlan(p)}
			free = map[int]bool{}
		}
		s.number++
		for w, hours := range hoursOf(c, p) {
			// A job has an hour or more.
			if total(hours) == 0 {
				free[w] = true
			}
		}
		return true
	})
	for w := range c.Workers {
		if free[w] {
			s.away = append(s.away, w)
		}
	}
	return s
}

// stage is what counts of a plan of the first jobs for what can follow.
type stage struct {
	job   int
	hours [4][3]int
	days  [4]int
}

// search looks for good plans with at most so many days in which one worker (or nobody, if it is -1) is in no job. What was found to lead nowhere is kept.
type search struct {
	c           api.CwCrew
	days, apart int
	dead        map[stage]bool
}

// then is a stage and one job more; false if the plan is not good then.
func (x search) then(s stage, d api.CwDone) (stage, bool) {
	j := x.c.Jobs[s.job]
	if len(d.Members) == 2 && d.Members[0] == d.Members[1] {
		return s, false
	}
	for _, before := range j.After {
		if s.days[before] >= d.Day {
			return s, false
		}
	}
	for place, m := range d.Members {
		s.hours[m][d.Day] += j.Hours
		w := x.c.Workers[m]
		if m == x.apart || !hasSkill(x.c, m, j.Party[place]) || s.hours[m][d.Day] > w.Day || total(s.hours[m][:]) > w.Week {
			return s, false
		}
	}
	s.days[s.job] = d.Day
	s.job++
	return s, true
}

// plan is the first good plan behind a stage; false if there is none.
func (x search) plan(s stage) ([]api.CwDone, bool) {
	if s.job == len(x.c.Jobs) {
		return nil, true
	}
	if x.dead[s] {
		return nil, false
	}
	for day := range x.days {
		for _, members := range parties(x.c, s.job) {
			if next, can := x.then(s, done(day, members...)); can {
				if rest, can := x.plan(next); can {
					return append(plan(done(day, members...)), rest...), true
				}
			}
		}
	}
	x.dead[s] = true
	return nil, false
}

func searched(c api.CwCrew, days, apart int) ([]api.CwDone, bool) {
	return search{c, days, apart, map[stage]bool{}}.plan(stage{})
}

// searchedOf is shortestOf for crews with too many plans to look at: without their number.
func searchedOf(c api.CwCrew) (s shortest) {
	for days := 1; days <= 3; days++ {
		p, can := searched(c, days, -1)
		if !can {
			continue
		}
		s = shortest{days: days, first: p}
		for w := range c.Workers {
			if _, can := searched(c, days, w); can {
				s.away = append(s.away, w)
			}
		}
		return s
	}
	return s
}

// needOf is the need of a set of skills, and perDay and perWeek the sums of its workers.
func needOf(c api.CwCrew, set int) (need, perDay, perWeek int) {
	for _, j := range c.Jobs {
		for _, skill := range j.Party {
			need += j.Hours * (set >> skill & 1)
		}
	}
	for _, w := range c.Workers {
		if w.Skills&set > 0 {
			perDay += w.Day
			perWeek += w.Week
		}
	}
	return need, perDay, perWeek
}

// chainOf is the number of jobs in the longest chain that ends with a job.
func chainOf(c api.CwCrew, i int) (n int) {
	for _, before := range c.Jobs[i].After {
		n = max(n, chainOf(c, before))
	}
	return n + 1
}

func longestOf(c api.CwCrew) (n int) {
	for i := range c.Jobs {
		n = max(n, chainOf(c, i))
	}
	return n
}

// floorOf is what Floor has to return, by the chapter's words.
func floorOf(c api.CwCrew) (days, skills int, e api.Errno) {
	var bounds [8]int
	for set := range 8 {
		need, day, week := needOf(c, set)
		if need > week || need > 0 && day == 0 {
			return 0, 0, api.ErrDown
		}
		for bounds[set]*day < need {
			bounds[set]++
		}
		days = max(days, bounds[set])
	}
	days = max(days, longestOf(c))
	for set, bound := range bounds {
		if bound == days {
			return days, set, api.OK
		}
	}
	return days, 0, api.OK
}

func from(r *rand.Rand, lo, hi int) int { return lo + r.IntN(hi-lo+1) }

// randomParty is some skills, of which two can be the same.
func randomParty(r *rand.Rand) (l []int) {
	for range from(r, 1, 2) {
		l = append(l, r.IntN(3))
	}
	return l
}

// randomAfter is some of the jobs before the one with an index.
func randomAfter(r *rand.Rand, at, oneIn int) (l []int) {
	for i := range at {
		if r.IntN(oneIn) == 0 {
			l = append(l, i)
		}
	}
	return l
}

// randomCrew is a crew with at most so many workers and jobs; its limits are near what it needs.
func randomCrew(r *rand.Rand, mostWorkers, mostJobs int) (c api.CwCrew) {
	hours, oneIn := ints(1, 4, 12)[r.IntN(3)], from(r, 1, 6)
	for i := range from(r, 1, mostJobs) {
		c.Jobs = append(c.Jobs, job("j"+string(rune('0'+i)), from(r, 1, hours), randomParty(r), randomAfter(r, i, oneIn)...))
	}
	all, _, _ := needOf(c, 7)
	n := from(r, 1, mostWorkers)
	each := all/n + 1
	for i := range n {
		skills := r.IntN(8)
		if r.IntN(3) > 0 {
			skills |= r.IntN(8)
		}
		day, week := from(r, 0, min(12, 2*each)), from(r, each/2, min(60, 3*each))
		c.Workers = append(c.Workers, worker("w"+string(rune('0'+i)), skills, day, week))
	}
	if r.IntN(3) > 0 {
		fit(r, c)
	}
	return c
}

// fit gives the workers of a crew what a plan needs, or little more; if it is not good by itself, another one can be.
func fit(r *rand.Rand, c api.CwCrew) {
	p := randomPlan(r, c)
	for i, d := range p {
		for place, m := range d.Members {
			c.Workers[m].Skills |= 1 << c.Jobs[i].Party[place]
		}
	}
	more := r.IntN(4)
	for w, hours := range hoursOf(c, p) {
		c.Workers[w].Day = min(12, slices.Max(hours)+r.IntN(more+1))
		c.Workers[w].Week = min(60, total(hours)+r.IntN(more+1))
	}
}

// randomPlan is a plan of a crew; mostly each member has the skill.
func randomPlan(r *rand.Rand, c api.CwCrew) (p []api.CwDone) {
	days := from(r, 1, 3)
	for _, j := range c.Jobs {
		d := done(r.IntN(days))
		for range j.Party {
			m := r.IntN(len(c.Workers))
			for try := 0; try < 6 && (!hasSkill(c, m, j.Party[len(d.Members)]) || slices.Contains(d.Members, m)); try++ {
				m = r.IntN(len(c.Workers))
			}
			d.Members = append(d.Members, m)
		}
		for _, before := range j.After {
			if r.IntN(4) > 0 {
				d.Day = max(d.Day, min(2, p[before].Day+1))
			}
		}
		p = append(p, d)
	}
	return p
}

// many runs a test with random numbers that are the same in each run.
func many(t *testing.T, n int, test func(r *rand.Rand)) {
	t.Helper()
	for i := range n {
		test(rand.New(rand.NewPCG(uint64(i), 10)))
		if t.Failed() {
			t.Fatalf("failed with the random numbers %d", i)
		}
	}
}

// enough checks that random arguments led to something often enough.
func enough(t *testing.T, what string, n, want int) {
	t.Helper()
	if n < want {
		t.Errorf("%s: only %d times", what, n)
	}
}

// checks, hoursIs, and so on check what a function returns.
func checks(t *testing.T, what any, c api.CwCrew, part, at int, e api.Errno) {
	t.Helper()
	if p, a, f := crew.Check(c); p != part || a != at || f != e {
		t.Errorf("%v: Check of %+v = %d, %d, %d; want %d, %d, %d", what, c, p, a, f, part, at, e)
	}
}

func hoursIs(t *testing.T, what any, c api.CwCrew, p []api.CwDone, want [][]int, e api.Errno) {
	t.Helper()
	if hours, f := crew.Hours(c, p); !sameHours(hours, want) || f != e {
		t.Errorf("%v: Hours of %+v with %v = %v, %d; want %v, %d", what, c, p, hours, f, want, e)
	}
}

func whyIs(t *testing.T, what any, c api.CwCrew, p []api.CwDone, why, at int, e api.Errno) {
	t.Helper()
	if w, a, f := crew.Why(c, p); w != why || a != at || f != e {
		t.Errorf("%v: Why of %+v with %v = %d, %d, %d; want %d, %d, %d", what, c, p, w, a, f, why, at, e)
	}
}

func floorIs(t *testing.T, what any, c api.CwCrew, days, skills int, e api.Errno) {
	t.Helper()
	if d, s, f := crew.Floor(c); d != days || s != skills || f != e {
		t.Errorf("%v: Floor of %+v = %d, %d, %d; want %d, %d, %d", what, c, d, s, f, days, skills, e)
	}
}

func shortestIs(t *testing.T, what any, c api.CwCrew, want []api.CwDone, days int, e api.Errno) {
	t.Helper()
	if p, d, f := crew.Shortest(c); !samePlans(p, want) || d != days || f != e {
		t.Errorf("%v: Shortest of %+v = %v, %d, %d; want %v, %d, %d", what, c, p, d, f, want, days, e)
	}
}

func awayIs(t *testing.T, what any, c api.CwCrew, want []int, e api.Errno) {
	t.Helper()
	if l, f := crew.Away(c); !slices.Equal(l, want) || f != e {
		t.Errorf("%v: Away of %+v = %v, %d; want %v, %d", what, c, l, f, want, e)
	}
}

// shortIs checks Shortest and Away.
func shortIs(t *testing.T, what any, c api.CwCrew, s shortest) {
	t.Helper()
	e := api.OK
	if s.days == 0 {
		e = api.ErrDown
	}
	shortestIs(t, what, c, s.first, s.days, e)
	awayIs(t, what, c, s.away, e)
}

// planErrors checks that the functions with a plan return an error, and nothing else; allErrors that all but Check do.
func planErrors(t *testing.T, what any, c api.CwCrew, p []api.CwDone, e api.Errno) {
	t.Helper()
	hoursIs(t, what, c, p, nil, e)
	whyIs(t, what, c, p, 0, 0, e)
}

func allErrors(t *testing.T, what any, c api.CwCrew, p []api.CwDone, e api.Errno) {
	t.Helper()
	planErrors(t, what, c, p, e)
	floorIs(t, what, c, 0, 0, e)
	shortestIs(t, what, c, nil, 0, e)
	awayIs(t, what, c, nil, e)
}

func same[T any](t *testing.T, what string, got, want T) {
	t.Helper()
	if !reflect.DeepEqual(got, want) {
		t.Errorf("%s: %+v; want %+v", what, got, want)
	}
}
