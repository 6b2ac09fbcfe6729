package crew_test

import (
	"math/rand/v2"
	"reflect"
	"regexp"
	"slices"
	"strings"
	"testing"

	"orlop/api"
	"orlop/crew"
)

// arguments is what the functions are handed.
type arguments struct {
	crew api.CwCrew
	plan []api.CwDone
}

func (a arguments) copy() arguments { return arguments{copyOf(a.crew), copyPlan(a.plan)} }

// results is what all functions return; the errors are in the order of the functions in the chapter.
type results struct {
	part, at      int
	hours         [][]int
	why, whyAt    int
	floor, skills int
	plan          []api.CwDone
	days          int
	away          []int
	errors        [6]api.Errno
}

func call(a arguments) (r results) {
	r.part, r.at, r.errors[0] = crew.Check(a.crew)
	r.hours, r.errors[1] = crew.Hours(a.crew, a.plan)
	r.why, r.whyAt, r.errors[2] = crew.Why(a.crew, a.plan)
	r.floor, r.skills, r.errors[3] = crew.Floor(a.crew)
	r.plan, r.days, r.errors[4] = crew.Shortest(a.crew)
	r.away, r.errors[5] = crew.Away(a.crew)
	return r
}

func (r results) copy() results {
	r.hours, r.plan, r.away = slices.Clone(r.hours), copyPlan(r.plan), slices.Clone(r.away)
	for i := range r.hours {
		r.hours[i] = slices.Clone(r.hours[i])
	}
	return r
}

// same is whether results are the same; a nil list and an empty one are.
func (r results) same(s results) bool {
	lists := sameHours(r.hours, s.hours) && samePlans(r.plan, s.plan) && slices.Equal(r.away, s.away)
	none := func(x results) results {
		x.hours, x.plan, x.away = nil, nil, nil
		return x
	}
	return lists && reflect.DeepEqual(none(r), none(s))
}

func spoil[T any](l []T, x T) {
	for l = l[:cap(l)]; len(l) > 0; l = l[1:] {
		l[0] = x
	}
}

// spoil overwrites all memory of the results.
func (r results) spoil() {
	for _, l := range append(r.hours, r.away) {
		spoil(l, 77)
	}
	for _, d := range r.plan {
		spoil(d.Members, 77)
	}
	spoil(r.hours, nil)
	spoil(r.plan, done(7, 7))
}

// zero checks that with an error nothing else is returned.
func (r results) zero(t *testing.T) {
	t.Helper()
	for i, wrong := range []bool{
		r.errors[0] == api.OK && (r.part != 0 || r.at != 0),
		len(r.hours) != 0,
		r.why != 0 || r.whyAt != 0,
		r.floor != 0 || r.skills != 0,
		len(r.plan) != 0 || r.days != 0,
		len(r.away) != 0,
	} {
		if wrong && (i == 0 || r.errors[i] != api.OK) {
			t.Errorf("with the error %d function %d returns %+v", r.errors[i], i, r)
		}
	}
}

// wild is an int that is near a limit, or far beyond all of them.
func wild(r *rand.Rand) int {
	l := append(far(), -1, 0, 1, 2, 3, 4, 7, 8, 12, 13, 60, 61)
	return l[r.IntN(len(l))]
}

// wildArguments is arguments that may have several errors.
func wildArguments(r *rand.Rand) arguments {
	c := randomCrew(r, 4, 4)
	a := arguments{c, randomPlan(r, c)}
	var numbers []*int
	for i := range c.Workers {
		w := &c.Workers[i]
		numbers = append(numbers, &w.Skills, &w.Day, &w.Week)
	}
	for i := range c.Jobs {
		numbers = append(numbers, &c.Jobs[i].Hours, &a.plan[i].Day)
		for _, l := range [][]int{c.Jobs[i].Party, c.Jobs[i].After, a.plan[i].Members} {
			for at := range l {
				numbers = append(numbers, &l[at])
			}
		}
	}
	for range max(0, r.IntN(8)-3) {
		n := numbers[r.IntN(len(numbers))]
		if r.IntN(2) == 0 {
			*n = wild(r)
		} else {
			*n += r.IntN(3) - 1
		}
	}
	spoilLists(r, &a)
	return a
}

// spoilLists makes some lists longer or shorter, and some names others.
func spoilLists(r *rand.Rand, a *arguments) {
	names := []string{"", "w0", "w1", "j0", "j1", "-", "A", "9", strings.Repeat("z", 16), strings.Repeat("z", 17), "\xff"}
	name := names[r.IntN(len(names))]
	c := &a.crew
	w, j, d := &c.Workers[r.IntN(len(c.Workers))], &c.Jobs[r.IntN(len(c.Jobs))], &a.plan[r.IntN(len(a.plan))]
	switch r.IntN(40) {
	case 0, 1:
		w.Name = name
	case 2, 3:
		j.Name = name
	case 4:
		c.Workers = append(c.Workers, worker("w4", 1, 1, 1))
	case 5:
		c.Jobs = append(c.Jobs, job("j4", 1, ints(0)))
	case 6:
		c.Workers = c.Workers[1:]
	case 7:
		c.Jobs = c.Jobs[1:]
	case 8:
		j.Party = append(j.Party, r.IntN(3))
	case 9:
		j.Party = j.Party[1:]
	case 10:
		j.After = append(j.After, r.IntN(4))
	case 11:
		slices.Reverse(j.After)
	case 12:
		d.Members = append(d.Members, r.IntN(4))
	case 13:
		d.Members = d.Members[1:]
	case 14:
		a.plan = append(a.plan, *d)
	case 15:
		a.plan = a.plan[1:]
	case 16:
		a.plan = nil
	}
}

func outOf(n, lo, hi int) bool { return n < lo || n > hi }

func anyOut(l []int, lo, hi int) bool {
	return slices.ContainsFunc(l, func(n int) bool { return outOf(n, lo, hi) })
}

var name = regexp.MustCompile(`\A[a-z][a-z0-9]{0,15}\z`)

// first returns the first error.
func first(errors ...api.Errno) api.Errno {
	for _, e := range errors {
		if e != api.OK {
			return e
		}
	}
	return api.OK
}

// when returns an error if something is so.
func when(is bool, e api.Errno) api.Errno {
	if is {
		return e
	}
	return api.OK
}

// faultOf is what Check has to return.
func faultOf(c api.CwCrew) (part, at int, e api.Errno) {
	if outOf(len(c.Workers), 1, 4) || outOf(len(c.Jobs), 1, 4) {
		return 1, 0, api.ErrLong
	}
	met := map[string]bool{}
	for i, w := range c.Workers {
		beyond := outOf(w.Skills, 0, 7) || outOf(w.Day, 0, 12) || outOf(w.Week, 0, 60)
		if e := first(when(!name.MatchString(w.Name), api.ErrForm), when(met[w.Name], api.ErrTwice), when(beyond, api.ErrRange)); e != api.OK {
			return 2, i, e
		}
		met[w.Name] = true
	}
	clear(met)
	for i, j := range c.Jobs {
		ascending := true
		for at := 1; at < len(j.After); at++ {
			ascending = ascending && j.After[at-1] < j.After[at]
		}
		if e := first(
			when(!name.MatchString(j.Name), api.ErrForm),
			when(met[j.Name], api.ErrTwice),
			when(outOf(j.Hours, 1, 12), api.ErrRange),
			when(outOf(len(j.Party), 1, 2), api.ErrLong),
			when(anyOut(j.Party, 0, 2) || anyOut(j.After, 0, i-1), api.ErrNone),
			when(!ascending, api.ErrArg)); e != api.OK {
			return 3, i, e
		}
		met[j.Name] = true
	}
	return 0, 0, api.OK
}

// faultOfPlan is the error of a plan of a crew without one.
func faultOfPlan(c api.CwCrew, p []api.CwDone) api.Errno {
	if len(p) != len(c.Jobs) {
		return api.ErrLong
	}
	for i, d := range p {
		long := len(d.Members) != len(c.Jobs[i].Party)
		if e := first(when(outOf(d.Day, 0, 2), api.ErrRange), when(long, api.ErrLong), when(anyOut(d.Members, 0, len(c.Workers)-1), api.ErrNone)); e != api.OK {
			return e
		}
	}
	return api.OK
}

// errorsOf is the errors that the functions have to return.
func errorsOf(a arguments) [6]api.Errno {
	_, _, of := faultOf(a.crew)
	if of != api.OK {
		return [6]api.Errno{of, of, of, of, of, of}
	}
	by := faultOfPlan(a.crew, a.plan)
	_, _, floor := floorOf(a.crew)
	_, can := searched(a.crew, 3, -1)
	down := when(!can, api.ErrDown)
	return [6]api.Errno{of, by, by, floor, down, down}
}

// TestAnyArguments is P10.13, P1, R1 and R2: any arguments have the error that is named first, or none; they are not modified, and with an error nothing else is returned.
func TestAnyArguments(t *testing.T) {
	var met [6][10]int
	many(t, 24000, func(r *rand.Rand) {
		a := wildArguments(r)
		before := a.copy()
		got := call(a)
		if !reflect.DeepEqual(a, before) {
			t.Errorf("%+v became %+v", before, a)
		}
		got.zero(t)
		part, at, e := faultOf(a.crew)
		checks(t, "any", a.crew, part, at, e)
		want := errorsOf(a)
		for i, e := range got.errors {
			if met[i][e]++; e != want[i] {
				t.Errorf("%+v: function %d has the error %d; want %d", a, i, e, want[i])
			}
		}
	})
	for i := range met {
		for _, e := range []api.Errno{api.ErrLong, api.ErrForm, api.ErrTwice, api.ErrNone, api.ErrRange, api.ErrArg, api.OK} {
			enough(t, "an error of some function", met[i][e], 50)
		}
		if i > 2 {
			enough(t, "ErrDown of some function", met[i][api.ErrDown], 500)
		}
	}
}

// TestNewMemory is P10.13, R4 and R5: results share no memory with arguments, with other results, nor with each other, and nothing is kept between calls.
func TestNewMemory(t *testing.T) {
	good := 0
	many(t, 1000, func(r *rand.Rand) {
		a := wildArguments(r)
		before := a.copy()
		got, again := call(a), call(a)
		want := got.copy()
		again.spoil()
		call(wildArguments(r))
		if !got.same(want) || !call(a).same(want) || !reflect.DeepEqual(a, before) {
			t.Errorf("%+v: results share memory", a)
		}
		for i := range got.hours {
			spoil(got.hours[i], 77)
			for k := i + 1; k < len(got.hours); k++ {
				same(t, "the hours of another worker", got.hours[k], want.hours[k])
			}
		}
		for i := range got.plan {
			spoil(got.plan[i].Members, 77)
			for k := i + 1; k < len(got.plan); k++ {
				same(t, "the members of another job", got.plan[k].Members, want.plan[k].Members)
			}
		}
		if want.errors == [6]api.Errno{} {
			good++
		}
	})
	enough(t, "arguments without an error", good, 100)
}

// TestNilAndEmpty is R3: a nil slice and an empty one are the same value.
func TestNilAndEmpty(t *testing.T) {
	for i, c := range []api.CwCrew{
		crewOf(alike(2).Workers, jobs(job("j", 1, ints(0)))),
		crewOf(alike(2).Workers, jobs(job("j", 1, nil))),
		crewOf(nil, jobs(job("j", 1, ints(0)))),
		crewOf(alike(2).Workers, nil),
	} {
		empty := copyOf(c)
		if len(c.Workers) == 0 {
			empty.Workers = workers()
		}
		if len(c.Jobs) == 0 {
			empty.Jobs = jobs()
		}
		for k := range empty.Jobs {
			empty.Jobs[k].After = ints()
			if len(empty.Jobs[k].Party) == 0 {
				empty.Jobs[k].Party = ints()
			}
		}
		for _, p := range [][]api.CwDone{nil, plan(done(0, 0)), plan(done(0))} {
			q := plan(p...)
			if p == nil {
				q = plan()
			} else if len(p[0].Members) == 0 {
				q[0].Members = ints()
			}
			if !call(arguments{c, p}).same(call(arguments{empty, q})) {
				t.Errorf("%d: nil lists and empty ones differ", i)
			}
		}
	}
}

// TestSlowest is P1: crews for which many plans have to be looked at.
func TestSlowest(t *testing.T) {
	c := alike(4)
	for i := range 4 {
		c.Jobs = append(c.Jobs, job("j"+string(rune('0'+i)), 1, ints(0, 1)))
	}
	first := plan(done(0, 0, 1), done(0, 0, 1), done(0, 0, 1), done(0, 0, 1))
	shortIs(t, "the first plan is good", c, shortest{days: 1, first: first, away: ints(0, 1, 2, 3)})
	for i := range c.Workers {
		c.Workers[i].Skills = 3
	}
	c.Jobs[3].Party = ints(2)
	shortIs(t, "nobody can do the last job", c, shortest{})
	c.Jobs[3] = job("j3", 2, ints(0, 0))
	for i := range c.Workers {
		c.Workers[i].Day = 1
	}
	shortIs(t, "the last job is too long", c, shortest{})
}
