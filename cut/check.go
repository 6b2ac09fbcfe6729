package cut

import (
	"orlop/api"
	"orlop/hull"
	"orlop/limits"
	"orlop/stand"
	"orlop/vent"
)

// The parts of a task, as Check tells them.
const (
	ofShip = iota + 1
	ofHull
	ofTide
	ofNet
	ofTanks
)

// fault is what is wrong with a task: the part, the index in it and the error. The checks of the parts leave by a panic with it.
type fault struct {
	part, at int
	e        api.Errno
}

// Check returns the part, the index in it and the error of a task.
func Check(t api.CtTask) (part, at int, e api.Errno) {
	defer func() {
		f, _ := recover().(fault)
		part, at, e = f.part, f.at, f.e
	}()
	checkShip(t.Ship)
	checkHull(t)
	checkTide(t)
	checkNet(t)
	checkTanks(t)
	return 0, 0, api.OK
}

// deny panics with a fault if there is an error.
func deny(part, at int, e api.Errno) {
	if e != api.OK {
		panic(fault{part, at, e})
	}
}

func checkShip(s api.HuShip) {
	_, at, e := hull.Check(api.HuPlan{Ship: s})
	deny(ofShip, at, e)
}

func checkHull(t api.CtTask) {
	_, _, e := stand.Check(t.Hull)
	deny(ofHull, 0, e)
	parts := len(t.Hull.Parts)
	if parts != len(t.Ship.Parts) || parts > api.MaxCtParts {
		deny(ofHull, 0, api.ErrLong)
	}
	for i, x := range t.Hull.Parts {
		if x.Name != t.Ship.Parts[i].Name {
			deny(ofHull, i, api.ErrNone)
		}
	}
}

func checkTide(t api.CtTask) {
	_, _, e := stand.Why(t.Hull, t.Tide)
	deny(ofTide, 0, e)
}

func checkNet(t api.CtTask) {
	_, e := vent.After(t.Net, t.Blanks, t.Steps)
	deny(ofNet, 0, e)
}

func checkTanks(t api.CtTask) {
	if len(t.Tanks) != len(t.Ship.Parts) {
		deny(ofTanks, 0, api.ErrLong)
	}
	for i, list := range t.Tanks {
		deny(ofTanks, i, limits.IndicesFault(list, len(t.Net.Tanks)))
	}
}
