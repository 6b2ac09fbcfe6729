package hull

import (
	"slices"

	"orlop/api"
	"orlop/limits"
)

// find returns the first element of a list that is wanted, and its index; if there is none, a zero value and -1.
func find[T any](list []T, wanted func(T) bool) (x T, at int) {
	for i, y := range list {
		if wanted(y) {
			return y, i
		}
	}
	return x, -1
}

// named returns a function that reports whether a part has a name.
func named(name string) func(api.HuPart) bool {
	return func(x api.HuPart) bool { return x.Name == name }
}

// has reports whether a ship has a part of a name.
func has(s api.HuShip, name string) bool {
	_, at := find(s.Parts, named(name))
	return at >= 0
}

// facts is all of a part but the list On, which cannot be compared with ==.
type facts struct {
	name              string
	kind, first, last int
	weight            api.Span
}

func factsOf(x api.HuPart) facts {
	return facts{name: x.Name, kind: x.Kind, first: x.First, last: x.Last, weight: x.Weight}
}

// same reports whether two parts differ in nothing.
func same(x, y api.HuPart) bool {
	return factsOf(x) == factsOf(y) && slices.Equal(x.On, y.On)
}

// meet reports whether two parts have a frame in common.
func meet(x, y api.HuPart) bool { return x.First <= y.Last && y.First <= x.Last }

// weightOf returns what a part weighs from one frame to another one: Lo rounded down, and Hi rounded up.
func weightOf(x api.HuPart, first, last int) api.Span {
	all := x.Last - x.First + 1
	n := max(0, min(x.Last, last)-max(x.First, first)+1)
	return api.Span{Lo: x.Weight.Lo * n / all, Hi: (x.Weight.Hi*n + all - 1) / all}
}

// shipFault returns the first part of a ship with an error, and this error.
func shipFault(s api.HuShip) (at int, e api.Errno) {
	if len(s.Parts) > api.MaxHuParts {
		return 0, api.ErrLong
	}
	for i, x := range s.Parts {
		before := s.Parts[:i]
		if e := partFault(x, before, before); e != api.OK {
			return i, e
		}
	}
	return 0, api.OK
}

// partFault returns the error of a part in its place, behind the parts before it; none of the others may have its name.
func partFault(x api.HuPart, before, others []api.HuPart) api.Errno {
	if !Name(x.Name) {
		return api.ErrForm
	}
	if _, at := find(others, named(x.Name)); at >= 0 {
		return api.ErrTwice
	}
	if !numbersFit(x) {
		return api.ErrRange
	}
	if x.First > x.Last || x.Weight.Lo > x.Weight.Hi {
		return api.ErrArg
	}
	return standingFault(x, before)
}

// numbersFit reports whether all numbers of a part are in their ranges.
func numbersFit(x api.HuPart) bool {
	return limits.Within(api.HuPlate, api.HuPipe, x.Kind) &&
		limits.Within(0, api.MaxHuFrames, x.First, x.Last) &&
		limits.Within(1, api.MaxHuWeight, x.Weight.Lo, x.Weight.Hi)
}

// standingFault returns the error of the list On of a part that is behind the parts before it.
func standingFault(x api.HuPart, before []api.HuPart) api.Errno {
	apart := false
	for _, name := range x.On {
		y, at := find(before, named(name))
		if at < 0 {
			return api.ErrNone
		}
		apart = apart || !meet(x, y)
	}
	// All names are known by now, of which there are few: one of them is soon there again, however long On is.
	for i, name := range x.On {
		if slices.Contains(x.On[:i], name) {
			return api.ErrTwice
		}
	}
	if apart {
		return api.ErrDown
	}
	return api.OK
}
