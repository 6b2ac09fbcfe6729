package stand

import (
	"iter"
	"slices"

	"orlop/api"
)

// wreck is a hull without an error that is looked at.
type wreck struct{ api.StHull }

// look returns the wreck of a hull at the heights of water of a tide; or the first error.
func look(h api.StHull, tide api.Span) (wreck, api.Errno) {
	if _, _, e := Check(h); e != api.OK {
		return wreck{}, e
	}
	if e := tideFault(tide); e != api.OK {
		return wreck{}, e
	}
	return wreck{h}, api.OK
}

// press returns a part as it is pressed in a truth, at a height of water.
func (w wreck) press(x api.StPart, weight, lift, water int) pressed {
	return pressed{x, w, weight - lift*max(0, water-x.Keel)}
}

// balance returns the balance of a truth at a height of water.
func (w wreck) balance(t api.StTruth, water int) balance {
	var b balance
	for i, s := range w.sums() {
		for j, x := range w.Parts {
			b[i] += s.adds(w.press(x, t.Weights[j], t.Lifts[j], water))
		}
	}
	return b
}

// least returns the least balance at a height of water.
func (w wreck) least(water int) balance {
	var b balance
	for i, s := range w.sums() {
		for _, x := range w.Parts {
			weight, lift := s.side(x)
			b[i] += s.adds(w.press(x, weight, lift, water))
		}
	}
	return b
}

// why returns why the hull does not surely stand at a height of water.
func (w wreck) why(water int) reason { return w.least(water).why() }

// shown returns the truth that shows a reason.
func (w wreck) shown(why reason) api.StTruth {
	s := w.sums()[max(why, floats)-floats]
	var t api.StTruth
	for _, x := range w.Parts {
		weight, lift := s.side(x)
		t.Weights = append(t.Weights, weight)
		t.Lifts = append(t.Lifts, lift)
	}
	return t
}

// turns yields the heights of water of a tide at which the least balance turns, ascending: both ends of the tide, and the keels between them. From one to the next one each number of it only falls or only rises, by as much with each centimetre.
func (w wreck) turns(tide api.Span) iter.Seq[int] {
	return func(yield func(water int) bool) {
		heights := []int{tide.Lo, tide.Hi}
		for _, x := range w.Parts {
			if tide.Lo < x.Keel && x.Keel < tide.Hi {
				heights = append(heights, x.Keel)
			}
		}
		slices.Sort(heights)
		for _, water := range slices.Compact(heights) {
			if !yield(water) {
				return
			}
		}
	}
}

// through reports whether the hull surely stands through a tide.
func (w wreck) through(tide api.Span) bool {
	for water := range w.turns(tide) {
		if w.why(water) != stands {
			return false
		}
	}
	return true
}

// fall returns the least height of water of a tide at which the hull does not surely stand, and why it does not; 0 and stands if it surely stands through the tide.
func (w wreck) fall(tide api.Span) (water int, why reason) {
	from := tide.Lo
turns:
	for to := range w.turns(tide) {
		// If it surely stands at two turns it does between them.
		if w.why(to) == stands {
			from = to
			continue
		}
		for water = from; water <= to; water++ {
			if why = w.why(water); why != stands {
				break turns
			}
		}
	}
	return water, why
}

// loaded returns the wreck with ballast on a part.
func (w wreck) loaded(part, kilos int) wreck {
	w.Parts = slices.Clone(w.Parts)
	weight := &w.Parts[part].Weight
	weight.Lo += kilos
	weight.Hi += kilos
	return w
}
