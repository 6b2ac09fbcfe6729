package crew

import "orlop/api"

// load is the need of a set of skills, and for how many hours of a day, and of the week, its workers can breathe together.
type load struct{ need, day, week int }

// ofSets returns what a function tells of each set of skills.
func ofSets[T any](tell func(set skillSet) T) (l []T) {
	for set := range skillSet(1 << api.MaxCwSkills) {
		l = append(l, tell(set))
	}
	return l
}

// load returns the load of a set of skills.
func (r rota) load(set skillSet) (l load) {
	for _, j := range r.Jobs {
		for _, skill := range j.Party {
			if set.Has(skill) {
				l.need += j.Hours
			}
		}
	}
	for _, w := range r.Workers {
		if skillSet(w.Skills)&set != 0 {
			l.day += w.Day
			l.week += w.Week
		}
	}
	return l
}

// tooMuch reports whether no number of days is enough.
func (l load) tooMuch() bool {
	return l.need > l.week || l.need > 0 && l.day == 0
}

// bound returns the least number of days that is enough, of a load that is not too much.
func (l load) bound() int {
	if l.need == 0 {
		return 0
	}
	return (l.need + l.day - 1) / l.day
}

// longestChain returns the number of jobs in the longest chain.
func (r rota) longestChain() (longest int) {
	// ending is, for each job, the number of jobs in the longest chain that ends with it: those in its After come before it in the list.
	ending := map[int]int{}
	for job, j := range r.Jobs {
		ending[job] = 1
		for _, before := range j.After {
			ending[job] = max(ending[job], ending[before]+1)
		}
		longest = max(longest, ending[job])
	}
	return longest
}
