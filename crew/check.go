package crew

import (
	"orlop/api"
	"orlop/limits"
	"orlop/names"
)

// Check returns the part, the index in it and the error of a crew. The part is 1 for how many workers and jobs there are, 2 for the workers, and 3 for the jobs.
func Check(c api.CwCrew) (part, at int, e api.Errno) {
	if !limits.Within(1, api.MaxCwWorkers, len(c.Workers)) || !limits.Within(1, api.MaxCwJobs, len(c.Jobs)) {
		return 1, 0, api.ErrLong
	}
	for i := range c.Workers {
		if e := workerFault(c.Workers, i); e != api.OK {
			return 2, i, e
		}
	}
	for i := range c.Jobs {
		if e := jobFault(c.Jobs, i); e != api.OK {
			return 3, i, e
		}
	}
	return 0, 0, api.OK
}

// workerFault returns the error of the worker of a list who has an index.
func workerFault(l []api.CwWorker, at int) api.Errno {
	if e := names.Fault(l, at, func(w api.CwWorker) string { return w.Name }); e != api.OK {
		return e
	}
	w := l[at]
	if !limits.Within(0, 1<<api.MaxCwSkills-1, w.Skills) ||
		!limits.Within(0, api.MaxCwHours, w.Day) ||
		!limits.Within(0, api.MaxCwWeek, w.Week) {
		return api.ErrRange
	}
	return api.OK
}

// jobFault returns the error of the job of a list that has an index.
func jobFault(l []api.CwJob, at int) api.Errno {
	if e := names.Fault(l, at, func(j api.CwJob) string { return j.Name }); e != api.OK {
		return e
	}
	j := l[at]
	if !limits.Within(1, api.MaxCwHours, j.Hours) {
		return api.ErrRange
	}
	if !limits.Within(1, api.MaxCwParty, len(j.Party)) {
		return api.ErrLong
	}
	if !limits.Within(0, api.MaxCwSkills-1, j.Party...) || !limits.Within(0, at-1, j.After...) {
		return api.ErrNone
	}
	return limits.IndicesFault(j.After, at)
}

// planFault returns the error of a plan of a crew without one.
func planFault(c api.CwCrew, plan []api.CwDone) api.Errno {
	if len(plan) != len(c.Jobs) {
		return api.ErrLong
	}
	for job, done := range plan {
		if !limits.Within(0, api.MaxCwDays-1, done.Day) {
			return api.ErrRange
		}
		if len(done.Members) != len(c.Jobs[job].Party) {
			return api.ErrLong
		}
		if !limits.Within(0, len(c.Workers)-1, done.Members...) {
			return api.ErrNone
		}
	}
	return api.OK
}
