package water

import (
	"iter"
	"slices"

	"orlop/api"
	"orlop/bitset"
)

// trace is a shore and samples without an error, and what can be in them: for each drift with which some truth agrees all spills of such truths that are in samples. With all of them a truth agrees, too.
type trace struct {
	api.WtShore
	list   []api.WtSample
	found  bitset.Set
	truths []truth
}

// follow returns the trace of a shore and samples without an error.
func follow(s api.WtShore, l []api.WtSample) trace {
	t := trace{WtShore: s, list: l}
	for i, x := range l {
		if x.Found {
			t.found |= bitset.Of(i)
		}
	}
drifts:
	for d := range drifts(s) {
		most := t.most(d)
		in := most.samples(t.all())
		for i, x := range l {
			if x.Found && !in.Has(i) {
				continue drifts
			}
		}
		t.truths = append(t.truths, most)
	}
	return t
}

// most returns all spills that are in samples, but in none that is not Found, if water drifts just so far.
func (t trace) most(d drift) truth {
	most := truth{}
	for p := range spills(t.WtShore) {
		var in bitset.Set
		for i, x := range t.list {
			if p.comesTo(x, t.WtShore, d) {
				in |= bitset.Of(i)
			}
		}
		if in != 0 && in&^t.found == 0 {
			most[p] = in
		}
	}
	return most
}

// agrees reports whether some truth agrees with the samples.
func (t trace) agrees() bool { return len(t.truths) > 0 }

// all returns the set of all yards.
func (t trace) all() bitset.Set { return bitset.Below(len(t.Yards)) }

// in returns the yards that can be in one of the samples of a set, each of which is Found.
func (t trace) in(samples bitset.Set) (yards bitset.Set) {
	for _, u := range t.truths {
		yards |= u.yards(samples)
	}
	return yards
}

// explain reports whether some truth agrees in which no yard that is not in a set has a spill.
func (t trace) explain(yards bitset.Set) bool {
	return slices.ContainsFunc(t.truths, func(u truth) bool { return u.samples(yards) == t.found })
}

// sources returns the yards that can be a source.
func (t trace) sources() bitset.Set { return t.in(t.found) }

// must returns the yards without which no others explain the samples.
func (t trace) must() (yards bitset.Set) {
	for yard := range t.all().All() {
		if !t.explain(t.all().Without(yard)) {
			yards |= bitset.Of(yard)
		}
	}
	return yards
}

// fewest returns the fewest yards that explain the samples, which some truth agrees with.
func (t trace) fewest() bitset.Set { return first(bitset.Lists(len(t.Yards)), t.explain) }

// first returns the first set for which something holds; if it holds for none, the empty one.
func first(sets iter.Seq[bitset.Set], holds func(bitset.Set) bool) bitset.Set {
	for set := range sets {
		if holds(set) {
			return set
		}
	}
	return 0
}

// further yields the samples that can be asked for at some places, each with the index of its place.
func (t trace) further(places []int) iter.Seq2[int, api.WtSample] {
	return func(yield func(int, api.WtSample) bool) {
		for i, place := range places {
			for tide := range t.Drifts {
				for kind := range api.MaxWtKinds {
					if !yield(i, api.WtSample{Place: place, Tide: tide, Kind: kind}) {
						return
					}
				}
			}
		}
	}
}

// leaves returns how many yards at most can be in a sample, whatever a further one shows.
func (t trace) leaves(sample int, further api.WtSample) int {
	most := 0
	for _, found := range []bool{true, false} {
		further.Found = found
		with := follow(t.WtShore, append(slices.Clone(t.list), further))
		most = max(most, with.in(bitset.Of(sample)).Count())
	}
	return most
}
