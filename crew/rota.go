package crew

import (
	"slices"

	"orlop/api"
	"orlop/bitset"
)

// skillSet is a set of skills.
type skillSet = bitset.Set

// shifts is for how many hours a worker breathes on each day.
type shifts [api.MaxCwDays]int

// rota is a crew without an error that is looked at, what is planned of its first jobs, and the shifts of its workers by that.
type rota struct {
	api.CwCrew
	plan  []api.CwDone
	hours [api.MaxCwWorkers]shifts
}

// look returns the rota of a crew of which nothing is planned yet; or the error of the crew.
func look(c api.CwCrew) (rota, api.Errno) {
	if _, _, e := Check(c); e != api.OK {
		return rota{}, e
	}
	return rota{CwCrew: c}, api.OK
}

// lookAt returns the rota of a crew and a plan; or the first error.
func lookAt(c api.CwCrew, plan []api.CwDone) (rota, api.Errno) {
	r, e := look(c)
	if e != api.OK {
		return rota{}, e
	}
	if e := planFault(c, plan); e != api.OK {
		return rota{}, e
	}
	for _, done := range plan {
		r = r.with(done)
	}
	return r, api.OK
}

// with returns the rota with the next job done so, too.
func (r rota) with(done api.CwDone) rota {
	// Other plans go on from the plan as it is.
	r.plan = append(slices.Clone(r.plan), done)
	for _, worker := range done.Members {
		r.hours[worker][done.Day] += r.Jobs[len(r.plan)-1].Hours
	}
	return r
}

// without returns the rota with a worker who has no skill, and so cannot be in any job.
func (r rota) without(worker int) rota {
	r.Workers = slices.Clone(r.Workers)
	r.Workers[worker].Skills = 0
	return r
}

// has reports whether a worker has a skill.
func (r rota) has(worker, skill int) bool {
	return skillSet(r.Workers[worker].Skills).Has(skill)
}

// soonest returns the first day that is later than those of all jobs in the After of a job.
func (r rota) soonest(job int) (day int) {
	for _, before := range r.Jobs[job].After {
		day = max(day, r.plan[before].Day+1)
	}
	return day
}

// reason is why a plan is not good, if that applies to one of so many jobs or workers.
type reason struct {
	why, of int
	applies func(at int) bool
}

// why returns the first reason why the plan of a rota is not good, and the first job or worker to whom it applies.
func (r rota) why() (why, at int) {
	jobs, workers := len(r.Jobs), len(r.Workers)
	for _, x := range []reason{
		{api.CwSkill, jobs, r.unskilled},
		{api.CwTwice, jobs, r.doubled},
		{api.CwLater, jobs, r.early},
		{api.CwDay, workers, r.overDay},
		{api.CwWeek, workers, r.overWeek},
	} {
		for at := range x.of {
			if x.applies(at) {
				return x.why, at
			}
		}
	}
	return api.CwGood, 0
}

// unskilled reports whether some member of a job does not have the skill at the same place of its party.
func (r rota) unskilled(job int) bool {
	for place, skill := range r.Jobs[job].Party {
		if !r.has(r.plan[job].Members[place], skill) {
			return true
		}
	}
	return false
}

// doubled reports whether a worker is twice a member of a job.
func (r rota) doubled(job int) bool {
	members := r.plan[job].Members
	for place, worker := range members {
		if slices.Contains(members[:place], worker) {
			return true
		}
	}
	return false
}

// early reports whether a job is not on a later day than each job in its After.
func (r rota) early(job int) bool {
	return r.plan[job].Day < r.soonest(job)
}

// overDay reports whether a worker breathes for too many hours on some day.
func (r rota) overDay(worker int) bool {
	return slices.Max(r.hours[worker][:]) > r.Workers[worker].Day
}

// overWeek reports whether a worker breathes for too many hours on all days together.
func (r rota) overWeek(worker int) bool {
	week := 0
	for _, hours := range r.hours[worker] {
		week += hours
	}
	return week > r.Workers[worker].Week
}
