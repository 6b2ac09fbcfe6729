// Package hull keeps the plans of a ship that yards changed, and tells which of them agree with a survey. It is layer 1: see shared/doc/01-hull.md.
package hull

import (
	"slices"

	"orlop/api"
	"orlop/limits"
)

// Name reports whether a string is a name: at most MaxName lower-case letters and digits, the first one a letter.
func Name(s string) bool {
	if len(s) == 0 || len(s) > api.MaxName || !letter(s[0]) {
		return false
	}
	for i := range len(s) {
		if !letter(s[i]) && !digit(s[i]) {
			return false
		}
	}
	return true
}

func letter(b byte) bool { return 'a' <= b && b <= 'z' }

func digit(b byte) bool { return '0' <= b && b <= '9' }

// Check returns the part, the index in it and the error of a plan. The part is 1 for the ship as it was built, and 2 for the changes.
func Check(p api.HuPlan) (part, at int, e api.Errno) {
	at, e = shipFault(p.Ship)
	if e != api.OK {
		return 1, at, e
	}
	at, e = changesFault(p)
	if e != api.OK {
		return 2, at, e
	}
	return 0, 0, api.OK
}

// Ship returns the ship of a plan after the changes up to a day.
func Ship(p api.HuPlan, day int) (api.HuShip, api.Errno) {
	l, e := ships(day, p)
	if e != api.OK {
		return api.HuShip{}, e
	}
	return l[0], api.OK
}

// ships returns the ships of plans on a day; or the error of the first plan with one, or else that of the day.
func ships(day int, plans ...api.HuPlan) ([]api.HuShip, api.Errno) {
	for _, p := range plans {
		if _, _, e := Check(p); e != api.OK {
			return nil, e
		}
	}
	if !limits.Within(0, api.MaxDay, day) {
		return nil, api.ErrRange
	}
	l := make([]api.HuShip, 0, len(plans))
	for _, p := range plans {
		l = append(l, shipOn(p, day))
	}
	return l, api.OK
}

// Weigh returns what the parts of a ship can weigh from one frame to another one.
func Weigh(p api.HuPlan, day, first, last int) (api.Span, api.Errno) {
	s, e := Ship(p, day)
	if e != api.OK {
		return api.Span{}, e
	}
	if !limits.Within(0, api.MaxHuFrames, first, last) || first > last {
		return api.Span{}, api.ErrRange
	}
	var sum api.Span
	for _, x := range s.Parts {
		w := weightOf(x, first, last)
		sum.Lo += w.Lo
		sum.Hi += w.Hi
	}
	return sum, api.OK
}

// Above returns the names of all parts that are above a part, in the order of the list of parts.
func Above(p api.HuPlan, day int, name string) ([]string, api.Errno) {
	s, e := Ship(p, day)
	if e != api.OK {
		return nil, e
	}
	if !has(s, name) {
		return nil, api.ErrNone
	}
	above := make([]bool, len(s.Parts))
	var climb func(name string)
	climb = func(name string) {
		for i, x := range s.Parts {
			if !above[i] && slices.Contains(x.On, name) {
				above[i] = true
				climb(x.Name)
			}
		}
	}
	climb(name)
	var names []string
	for i, x := range s.Parts {
		if above[i] {
			names = append(names, x.Name)
		}
	}
	return names, api.OK
}

// Differ returns in which parts the ships of two plans differ on a day: their names, ascending.
func Differ(p, q api.HuPlan, day int) ([]string, api.Errno) {
	l, e := ships(day, p, q)
	if e != api.OK {
		return nil, e
	}
	names := append(unlike(l[0], l[1]), unlike(l[1], l[0])...)
	slices.Sort(names)
	return slices.Compact(names), api.OK
}

// unlike returns the names of all parts of a ship that the other one has not, or not as they are.
func unlike(s, other api.HuShip) []string {
	var names []string
	for _, x := range s.Parts {
		_, at := find(other.Parts, func(y api.HuPart) bool { return same(x, y) })
		if at < 0 {
			names = append(names, x.Name)
		}
	}
	return names
}
