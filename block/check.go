package block

import (
	"slices"

	"orlop/api"
	"orlop/bitset"
	"orlop/limits"
	"orlop/names"
)

// Check returns the part, the index in it and the error of a hull. The part is 1 for how many parts and joints there are, the sand and the winch, 2 for the parts, and 3 for the joints.
func Check(h api.BlHull) (part, at int, e api.Errno) {
	if e := frameFault(h); e != api.OK {
		return 1, 0, e
	}
	for i := range h.Parts {
		if e := partFault(h.Parts, i); e != api.OK {
			return 2, i, e
		}
	}
	for i := range h.Joints {
		if e := jointFault(h, i); e != api.OK {
			return 3, i, e
		}
	}
	return 0, 0, api.OK
}

// frameFault returns the error of a hull, but for those of its parts and joints.
func frameFault(h api.BlHull) api.Errno {
	if !limits.Within(1, api.MaxBlParts, len(h.Parts)) || len(h.Joints) > api.MaxBlJoints {
		return api.ErrLong
	}
	if !limits.SpansWithin(1, api.MaxBlSand, h.Sand) || !limits.Within(1, api.MaxBlWinch, h.Winch) {
		return api.ErrRange
	}
	if limits.Turned(h.Sand) {
		return api.ErrArg
	}
	return api.OK
}

// partFault returns the error of the part of a list that has an index.
func partFault(l []api.BlPart, at int) api.Errno {
	if e := names.Fault(l, at, func(x api.BlPart) string { return x.Name }); e != api.OK {
		return e
	}
	return limits.SpanFault(0, api.MaxBlWeight, l[at].Weight)
}

// jointFault returns the error of the joint of a hull that has an index.
func jointFault(h api.BlHull, at int) api.Errno {
	j := h.Joints[at]
	if !limits.Within(0, len(h.Parts)-1, j[:]...) {
		return api.ErrNone
	}
	if j[0] >= j[1] {
		return api.ErrArg
	}
	if slices.Contains(h.Joints[:at], j) {
		return api.ErrTwice
	}
	return api.OK
}

// blockFault returns the error of a number that is to be a block of a hull without an error.
func blockFault(h api.BlHull, block int) api.Errno {
	if !limits.Within(1, int(allOf(h)), block) {
		return api.ErrNone
	}
	if !hangs(h, bitset.Set(block)) {
		return api.ErrForm
	}
	return api.OK
}

// weighingsFault returns the error of the weighings of a hull without one, but for that of no truth that agrees.
func weighingsFault(h api.BlHull, l []api.BlWeighed) api.Errno {
	if len(l) > api.MaxBlWeighed {
		return api.ErrLong
	}
	for i, x := range l {
		if e := blockFault(h, x.Parts); e != api.OK {
			return e
		}
		if slices.ContainsFunc(l[:i], func(y api.BlWeighed) bool { return cross(x, y) }) {
			return api.ErrForm
		}
		if e := limits.SpanFault(0, api.MaxBlShown, x.Shown); e != api.OK {
			return e
		}
	}
	return api.OK
}

// cross reports whether two weighings have parts in common, and each of them others.
func cross(x, y api.BlWeighed) bool {
	common := x.Parts & y.Parts
	return common != 0 && common != x.Parts && common != y.Parts
}
