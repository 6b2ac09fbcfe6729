package hull

import (
	"iter"
	"slices"

	"orlop/api"
	"orlop/limits"
)

// Agree returns which plans agree with what a survey found.
func Agree(plans []api.HuPlan, day int, sights []api.HuSight) ([]int, api.Errno) {
	indices, _, e := survey(plans, day, sights)
	return indices, e
}

// Sure returns the parts that all plans have that agree with what a survey found, and those that some of them have.
func Sure(plans []api.HuPlan, day int, sights []api.HuSight) (all, some []string, e api.Errno) {
	left, e := remaining(plans, day, sights)
	if e != api.OK {
		return nil, nil, e
	}
	some = namesOf(left)
	for _, name := range some {
		_, at := find(left, func(s api.HuShip) bool { return !has(s, name) })
		if at < 0 {
			all = append(all, name)
		}
	}
	return all, some, api.OK
}

// Ask returns what to look at next, so that as few plans as possible are left whatever is found.
func Ask(plans []api.HuPlan, day int, sights []api.HuSight) (name string, frame, left int, e api.Errno) {
	agreed, e := remaining(plans, day, sights)
	if e != api.OK {
		return "", 0, 0, e
	}
	least := len(agreed)
	for n, f := range looks(agreed) {
		if w := worst(agreed, n, f); w < least {
			name, frame, least = n, f, w
		}
	}
	// A look that finds the same everywhere has all of them as its worst, so none was better than that.
	if least == len(agreed) {
		return "", 0, 0, api.ErrNone
	}
	return name, frame, least, api.OK
}

// survey returns the plans that agree with sights, and their ships.
func survey(plans []api.HuPlan, day int, sights []api.HuSight) ([]int, []api.HuShip, api.Errno) {
	if !limits.Within(1, api.MaxHuVersions, len(plans)) {
		return nil, nil, api.ErrLong
	}
	l, e := ships(day, plans...)
	if e != api.OK {
		return nil, nil, e
	}
	if e := sightsFault(sights); e != api.OK {
		return nil, nil, e
	}
	var indices []int
	var agreed []api.HuShip
next:
	for i, s := range l {
		for _, w := range sights {
			if finds(s, w.Name, w.Frame) != w.Kind {
				continue next
			}
		}
		indices = append(indices, i)
		agreed = append(agreed, s)
	}
	return indices, agreed, api.OK
}

// remaining returns the ships of the plans that agree with sights, of which there has to be one.
func remaining(plans []api.HuPlan, day int, sights []api.HuSight) ([]api.HuShip, api.Errno) {
	_, l, e := survey(plans, day, sights)
	if e == api.OK && len(l) == 0 {
		return nil, api.ErrDown
	}
	return l, e
}

func sightsFault(sights []api.HuSight) api.Errno {
	if len(sights) > api.MaxHuSights {
		return api.ErrLong
	}
	for _, w := range sights {
		if !Name(w.Name) {
			return api.ErrForm
		}
		if !limits.Within(0, api.MaxHuFrames, w.Frame) || !limits.Within(0, api.HuPipe, w.Kind) {
			return api.ErrRange
		}
	}
	return api.OK
}

// finds returns what a look finds: the kind of the part of this name that has this frame, or 0.
func finds(s api.HuShip, name string, frame int) int {
	x, _ := find(s.Parts, func(x api.HuPart) bool {
		return x.Name == name && limits.Within(x.First, x.Last, frame)
	})
	return x.Kind
}

// namesOf returns the names of all parts that some ships have, ascending.
func namesOf(l []api.HuShip) []string {
	var names []string
	for _, s := range l {
		for _, x := range s.Parts {
			names = append(names, x.Name)
		}
	}
	slices.Sort(names)
	return slices.Compact(names)
}

// looks yields all looks at the names that some ships have: by names, and of each name by frames, ascending.
func looks(l []api.HuShip) iter.Seq2[string, int] {
	return func(yield func(string, int) bool) {
		for _, name := range namesOf(l) {
			for frame := range api.MaxHuFrames + 1 {
				if !yield(name, frame) {
					return
				}
			}
		}
	}
}

// worst returns the greatest number of ships in which a look finds the same.
func worst(l []api.HuShip, name string, frame int) int {
	var counts [api.HuPipe + 1]int
	most := 0
	for _, s := range l {
		kind := finds(s, name, frame)
		counts[kind]++
		most = max(most, counts[kind])
	}
	return most
}
