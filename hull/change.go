package hull

import (
	"slices"

	"orlop/api"
	"orlop/limits"
)

// changing is a ship that is changed. Its lists are its own, so that changes reach no plan.
type changing struct{ api.HuShip }

// launch returns a ship that can be changed, as a ship is.
func launch(s api.HuShip) *changing {
	c := &changing{}
	for _, x := range s.Parts {
		c.Parts = append(c.Parts, own(x))
	}
	return c
}

// own returns a part whose list On is new.
func own(x api.HuPart) api.HuPart {
	x.On = slices.Clone(x.On)
	return x
}

// deed is what changes of one kind do: fault returns the error of such a change, do changes the ship if there is none.
type deed struct {
	fault func(s *changing, c api.HuChange) api.Errno
	do    func(s *changing, c api.HuChange)
}

// deeds returns what changes do, by What.
func deeds() map[int]deed {
	return map[int]deed{
		api.HuAdd:  {fault: addFault, do: add},
		api.HuTake: {fault: takeFault, do: take},
		api.HuSwap: {fault: swapFault, do: swap},
	}
}

// shipOn returns the ship on a day of a plan without an error.
func shipOn(p api.HuPlan, day int) api.HuShip {
	s := launch(p.Ship)
	by := deeds()
	for _, c := range p.Changes {
		if c.Day <= day {
			by[c.What].do(s, c)
		}
	}
	return s.HuShip
}

// changesFault returns the first change with an error, and this error, of a plan whose ship has none.
func changesFault(p api.HuPlan) (at int, e api.Errno) {
	if len(p.Changes) > api.MaxHuChanges {
		return 0, api.ErrLong
	}
	s := launch(p.Ship)
	by := deeds()
	day := 0
	for i, c := range p.Changes {
		if !limits.Within(day, api.MaxDay, c.Day) {
			return i, api.ErrRange
		}
		day = c.Day
		d, known := by[c.What]
		if !known {
			return i, api.ErrForm
		}
		if e := d.fault(s, c); e != api.OK {
			return i, e
		}
		d.do(s, c)
	}
	return 0, api.OK
}

func addFault(s *changing, c api.HuChange) api.Errno {
	if c.Name != "" {
		return api.ErrForm
	}
	if len(s.Parts) >= api.MaxHuParts {
		return api.ErrLong
	}
	return partFault(c.Part, s.Parts, s.Parts)
}

func add(s *changing, c api.HuChange) { s.Parts = append(s.Parts, own(c.Part)) }

func takeFault(s *changing, c api.HuChange) api.Errno {
	if !same(c.Part, api.HuPart{}) {
		return api.ErrForm
	}
	if !has(s.HuShip, c.Name) {
		return api.ErrNone
	}
	if _, at := find(s.Parts, standsOn(c.Name)); at >= 0 {
		return api.ErrDown
	}
	return api.OK
}

func take(s *changing, c api.HuChange) {
	s.Parts = slices.DeleteFunc(s.Parts, named(c.Name))
}

func swapFault(s *changing, c api.HuChange) api.Errno {
	_, at := find(s.Parts, named(c.Name))
	if at < 0 {
		return api.ErrNone
	}
	others := slices.Concat(s.Parts[:at], s.Parts[at+1:])
	if e := partFault(c.Part, s.Parts[:at], others); e != api.OK {
		return e
	}
	for _, x := range others {
		if slices.Contains(x.On, c.Name) && !meet(x, c.Part) {
			return api.ErrDown
		}
	}
	return api.OK
}

// swap puts Part to the place of the old part, and its name to where that of the old one was.
func swap(s *changing, c api.HuChange) {
	for i, x := range s.Parts {
		if x.Name == c.Name {
			s.Parts[i] = own(c.Part)
		}
		for j, name := range x.On {
			if name == c.Name {
				x.On[j] = c.Part.Name
			}
		}
	}
}

// standsOn returns a function that reports whether a part stands on the part of a name.
func standsOn(name string) func(api.HuPart) bool {
	return func(x api.HuPart) bool { return slices.Contains(x.On, name) }
}
