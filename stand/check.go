package stand

import (
	"slices"

	"orlop/api"
	"orlop/hull"
	"orlop/limits"
)

// Check returns the part, the index in it and the error of a hull. The part is 1 for how many parts there are and for the ground, and 2 for the parts.
func Check(h api.StHull) (part, at int, e api.Errno) {
	if e := groundFault(h); e != api.OK {
		return 1, 0, e
	}
	for i, x := range h.Parts {
		if e := partFault(x, h.Parts[:i]); e != api.OK {
			return 2, i, e
		}
	}
	return 0, 0, api.OK
}

// groundFault returns the error of a hull, but for those of its parts.
func groundFault(h api.StHull) api.Errno {
	if !limits.Within(1, api.MaxStParts, len(h.Parts)) {
		return api.ErrLong
	}
	if !limits.Within(0, api.MaxStAt, h.Aft, h.Fore) {
		return api.ErrRange
	}
	if h.Aft >= h.Fore {
		return api.ErrArg
	}
	return api.OK
}

// partFault returns the error of a part behind those before it.
func partFault(x api.StPart, before []api.StPart) api.Errno {
	if !hull.Name(x.Name) {
		return api.ErrForm
	}
	if slices.ContainsFunc(before, func(y api.StPart) bool { return y.Name == x.Name }) {
		return api.ErrTwice
	}
	if !numbersFit(x) {
		return api.ErrRange
	}
	if limits.Turned(x.Weight, x.Lift) {
		return api.ErrArg
	}
	return api.OK
}

// numbersFit reports whether all numbers of a part are in their ranges.
func numbersFit(x api.StPart) bool {
	return limits.Within(0, api.MaxStAt, x.At) &&
		limits.SpansWithin(0, api.MaxStWeight, x.Weight) &&
		limits.Within(0, api.MaxStWater, x.Keel) &&
		limits.SpansWithin(0, api.MaxStLift, x.Lift)
}

// truthFault returns the error of a truth of a hull without one.
func truthFault(h api.StHull, t api.StTruth) api.Errno {
	if len(t.Weights) != len(h.Parts) || len(t.Lifts) != len(h.Parts) {
		return api.ErrLong
	}
	if !match(t.Weights, h.Parts, func(x api.StPart) api.Span { return x.Weight }) ||
		!match(t.Lifts, h.Parts, func(x api.StPart) api.Span { return x.Lift }) {
		return api.ErrRange
	}
	return api.OK
}

// match reports whether each number is from the span of the element of a list that has the same index.
func match[T any](numbers []int, list []T, span func(T) api.Span) bool {
	for i, x := range list {
		s := span(x)
		if !limits.Within(s.Lo, s.Hi, numbers[i]) {
			return false
		}
	}
	return true
}

// waterFault returns the error of a height of water.
func waterFault(water int) api.Errno {
	if !limits.Within(0, api.MaxStWater, water) {
		return api.ErrRange
	}
	return api.OK
}

// tideFault returns the error of a tide.
func tideFault(tide api.Span) api.Errno {
	if !limits.SpansWithin(0, api.MaxStWater, tide) {
		return api.ErrRange
	}
	if limits.Turned(tide) {
		return api.ErrArg
	}
	return api.OK
}
