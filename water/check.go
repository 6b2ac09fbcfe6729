package water

import (
	"orlop/api"
	"orlop/limits"
	"orlop/names"
)

// Check returns the part, the index in it and the error of a shore. The part is 1 for how many yards and drifts it has and for its spread, 2 for the yards, and 3 for the drifts.
func Check(s api.WtShore) (part, at int, e api.Errno) {
	switch {
	case !limits.Within(1, api.MaxWtYards, len(s.Yards)), !limits.Within(1, api.MaxWtTides, len(s.Drifts)):
		return 1, 0, api.ErrLong
	case !limits.Within(0, api.MaxWtSpread, s.Spread):
		return 1, 0, api.ErrRange
	}
	for i := range s.Yards {
		if e := yardFault(s.Yards, i); e != api.OK {
			return 2, i, e
		}
	}
	for i, d := range s.Drifts {
		if e := driftFault(d); e != api.OK {
			return 3, i, e
		}
	}
	return 0, 0, api.OK
}

// yardFault returns the error of the yard of a list that has an index.
func yardFault(l []api.WtYard, at int) api.Errno {
	if e := names.Fault(l, at, func(y api.WtYard) string { return y.Name }); e != api.OK {
		return e
	}
	// The sets of kinds are all numbers that have no bit behind that of the last kind.
	if !limits.Within(0, api.MaxWtShore, l[at].At) || !limits.Within(0, 1<<api.MaxWtKinds-1, l[at].Kinds) {
		return api.ErrRange
	}
	return api.OK
}

// driftFault returns the error of how far water drifts on a tide.
func driftFault(d api.Span) api.Errno {
	if e := limits.SpanFault(-api.MaxWtDrift, api.MaxWtDrift, d); e != api.OK {
		return e
	}
	if d.Hi > d.Lo+api.MaxWtWide {
		return api.ErrArg
	}
	return api.OK
}

// fault returns the error of a shore, or else that of samples.
func fault(s api.WtShore, l []api.WtSample) api.Errno {
	if _, _, e := Check(s); e != api.OK {
		return e
	}
	if len(l) > api.MaxWtSamples {
		return api.ErrLong
	}
	for _, x := range l {
		if !limits.Within(0, len(s.Drifts)-1, x.Tide) || !limits.Within(0, api.MaxWtKinds-1, x.Kind) {
			return api.ErrNone
		}
		if !limits.Within(0, api.MaxWtShore, x.Place) {
			return api.ErrRange
		}
	}
	return api.OK
}

// numberFault returns the error of a shore and samples, or else that of the number of one of them.
func numberFault(s api.WtShore, l []api.WtSample, sample int) api.Errno {
	switch e := fault(s, l); {
	case e != api.OK:
		return e
	case !limits.Within(0, len(l)-1, sample):
		return api.ErrNone
	case !l[sample].Found:
		return api.ErrArg
	}
	return api.OK
}

// askFault returns the error of a shore, samples and the number of one of them, or else that of asking for a further one.
func askFault(s api.WtShore, l []api.WtSample, sample int, places []int) api.Errno {
	switch e := numberFault(s, l, sample); {
	case e != api.OK:
		return e
	case len(l) == api.MaxWtSamples, !limits.Within(1, api.MaxWtPlaces, len(places)):
		return api.ErrLong
	case !limits.Within(0, api.MaxWtShore, places...):
		return api.ErrRange
	}
	return api.OK
}
