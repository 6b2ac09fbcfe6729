package water

import (
	"iter"

	"orlop/api"
	"orlop/bitset"
	"orlop/limits"
)

// drift is how far all water drifts on each tide; on those that a shore does not have it is 0.
type drift [api.MaxWtTides]int

// drifts yields all that can be true of how far water drifts along a shore.
func drifts(s api.WtShore) iter.Seq[drift] {
	return func(yield func(drift) bool) {
		var d drift
		var next func(tide int) bool
		next = func(tide int) bool {
			if tide == len(s.Drifts) {
				return yield(d)
			}
			for d[tide] = s.Drifts[tide].Lo; d[tide] <= s.Drifts[tide].Hi; d[tide]++ {
				if !next(tide + 1) {
					return false
				}
			}
			return true
		}
		next(0)
	}
}

// spill is a yard, one of its kinds, and a tide.
type spill struct{ yard, kind, tide int }

// spills yields all spills that there can be along a shore.
func spills(s api.WtShore) iter.Seq[spill] {
	return func(yield func(spill) bool) {
		for yard, y := range s.Yards {
			for kind := range bitset.Set(y.Kinds).All() {
				for tide := range s.Drifts {
					if !yield(spill{yard, kind, tide}) {
						return
					}
				}
			}
		}
	}
}

// comesTo reports whether a spill along a shore is in a sample, if water drifts just so far.
func (p spill) comesTo(x api.WtSample, s api.WtShore, d drift) bool {
	if p.kind != x.Kind || p.tide > x.Tide {
		return false
	}
	at := s.Yards[p.yard].At
	for _, far := range d[p.tide : x.Tide+1] {
		at += far
	}
	return limits.Within(x.Place-s.Spread, x.Place+s.Spread, at)
}

// truth is some spills, and which samples each of them is in.
type truth map[spill]bitset.Set

// samples returns the samples that spills of the yards of a set are in.
func (t truth) samples(yards bitset.Set) (in bitset.Set) {
	for p, samples := range t {
		if yards.Has(p.yard) {
			in |= samples
		}
	}
	return in
}

// yards returns the yards that are in one of the samples of a set.
func (t truth) yards(samples bitset.Set) (in bitset.Set) {
	for p, own := range t {
		if own&samples != 0 {
			in |= bitset.Of(p.yard)
		}
	}
	return in
}
