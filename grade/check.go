package grade

import (
	"orlop/api"
	"orlop/limits"
)

// Check returns the error of a heap.
func Check(h api.GrHeap) api.Errno {
	if !limits.Within(1, api.MaxGrPieces, h.Pieces) || !limits.SpansWithin(0, h.Pieces, h.Bad) {
		return api.ErrRange
	}
	if limits.Turned(h.Bad) {
		return api.ErrArg
	}
	return api.OK
}

// CheckPlan returns the error of a heap; if it has none, that of a plan for it.
func CheckPlan(h api.GrHeap, p api.GrPlan) api.Errno {
	if e := Check(h); e != api.OK {
		return e
	}
	if !planFits(h, p) {
		return api.ErrRange
	}
	// No number of bad pieces is left undecided by the first sample just if Fail is Pass and 1.
	decided := p.Fail == p.Pass+1
	if p.Second == 0 && (!decided || p.Total != 0) || p.Second != 0 && (decided || p.Total < p.Pass) {
		return api.ErrArg
	}
	return api.OK
}

// planFits reports whether all numbers of a plan are in their ranges.
func planFits(h api.GrHeap, p api.GrPlan) bool {
	return limits.Within(1, h.Pieces, p.First) &&
		limits.Within(0, p.First, p.Pass) &&
		limits.Within(p.Pass+1, p.First+1, p.Fail) &&
		limits.Within(0, h.Pieces-p.First, p.Second) &&
		limits.Within(0, h.Pieces, p.Total)
}

// shareFits reports whether both numbers of a wanted share are in their ranges.
func shareFits(s api.GrShare) bool {
	return limits.Within(1, api.MaxGrShare, s.In) && limits.Within(0, s.In, s.Of)
}
