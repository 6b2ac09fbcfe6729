package claim

import (
	"orlop/api"
	"orlop/hull"
	"orlop/limits"
	"orlop/names"
)

// CheckShip returns the part, the index in it and the error of a ship. The part is 1 for its first owner, how many papers it has and how many can be forged, and 2 for the papers.
func CheckShip(s api.ClShip) (part, at int, e api.Errno) {
	switch {
	case !hull.Name(s.First):
		return 1, 0, api.ErrForm
	case len(s.Papers) > api.MaxClPapers:
		return 1, 0, api.ErrLong
	case !limits.Within(0, api.MaxClPapers, s.Forged):
		return 1, 0, api.ErrRange
	}
	for i, p := range s.Papers {
		if e := paperFault(p); e != api.OK {
			return 2, i, e
		}
	}
	return 0, 0, api.OK
}

// paperFault returns the error of a paper.
func paperFault(p api.ClPaper) api.Errno {
	switch {
	case !limits.Within(0, api.MaxDay, p.Day):
		return api.ErrRange
	case !hull.Name(p.From) || !hull.Name(p.To):
		return api.ErrForm
	case p.From == p.To:
		return api.ErrArg
	}
	return api.OK
}

// dayFault returns the error of a ship, or else that of a day.
func dayFault(s api.ClShip, day int) api.Errno {
	if _, _, e := CheckShip(s); e != api.OK {
		return e
	}
	if !limits.Within(0, api.MaxDay, day) {
		return api.ErrRange
	}
	return api.OK
}

// Check returns the part, the index in it and the error of an estate. The part is 1 for its proceeds and how many claims it has, and 2 for the claims.
func Check(x api.ClEstate) (part, at int, e api.Errno) {
	if e := limits.SpanFault(0, api.MaxClCents, x.Proceeds); e != api.OK {
		return 1, 0, e
	}
	if !limits.Within(1, api.MaxClClaims, len(x.Claims)) {
		return 1, 0, api.ErrLong
	}
	for i := range x.Claims {
		if e := claimFault(x.Claims, i); e != api.OK {
			return 2, i, e
		}
	}
	return 0, 0, api.OK
}

// claimFault returns the error of the claim of a list that has an index.
func claimFault(l []api.ClClaim, at int) api.Errno {
	if e := names.Fault(l, at, func(c api.ClClaim) string { return c.Name }); e != api.OK {
		return e
	}
	if !limits.Within(1, api.MaxClRank, l[at].Rank) {
		return api.ErrRange
	}
	return limits.SpanFault(0, api.MaxClCents, l[at].Cents)
}

// truthFault returns the error of a truth of an estate without one.
func truthFault(x api.ClEstate, t api.ClTruth) api.Errno {
	if len(t.Cents) != len(x.Claims) {
		return api.ErrLong
	}
	if !limits.Within(x.Proceeds.Lo, x.Proceeds.Hi, t.Proceeds) {
		return api.ErrRange
	}
	for claim, c := range x.Claims {
		if !limits.Within(c.Cents.Lo, c.Cents.Hi, t.Cents[claim]) {
			return api.ErrRange
		}
	}
	return api.OK
}

// single reports whether a span is just one number.
func single(s api.Span) bool { return s == api.Span{Lo: s.Lo, Hi: s.Lo} }
