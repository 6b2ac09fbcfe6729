package crew

import (
	"iter"
	"slices"

	"orlop/api"
)

// shortest returns the first of the shortest good plans, and its days; false if no plan is good.
func (r rota) shortest() (plan []api.CwDone, days int, can bool) {
	for last := range api.MaxCwDays {
		if plan, can := r.first(last + 1); can {
			return plan, last + 1, true
		}
	}
	return nil, 0, false
}

// first returns the first good plan with at most so many days; false if there is none.
func (r rota) first(days int) (plan []api.CwDone, can bool) {
	var fill func(r rota) bool
	fill = func(r rota) bool {
		job := len(r.plan)
		if job == len(r.Jobs) {
			plan = r.plan
			return true
		}
		for day := range days {
			if day < r.soonest(job) {
				continue
			}
			for members := range r.parties(job, day) {
				if fill(r.with(api.CwDone{Day: day, Members: members})) {
					return true
				}
			}
		}
		return false
	}
	can = fill(r)
	return plan, can
}

// parties yields all lists of members who can do a job on a day, in the order in which they are compared.
func (r rota) parties(job, day int) iter.Seq[[]int] {
	party := r.Jobs[job].Party
	rested := r.rested(day, r.Jobs[job].Hours)
	return func(yield func([]int) bool) {
		var add func(members []int) bool
		add = func(members []int) bool {
			place := len(members)
			if place == len(party) {
				return yield(slices.Clone(members))
			}
			for _, worker := range rested {
				if !r.has(worker, party[place]) || slices.Contains(members, worker) {
					continue
				}
				if !add(append(members, worker)) {
					return false
				}
			}
			return true
		}
		add(nil)
	}
}

// rested returns the workers who can breathe for so many hours more on a day.
func (r rota) rested(day, hours int) (l []int) {
workers:
	for worker, w := range r.Workers {
		week := hours
		for d, already := range r.hours[worker] {
			week += already
			if d == day {
				already += hours
			}
			if already > w.Day {
				continue workers
			}
		}
		if week <= w.Week {
			l = append(l, worker)
		}
	}
	return l
}
