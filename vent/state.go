package vent

import (
	"iter"
	"slices"

	"orlop/api"
	"orlop/bitset"
)

// state is which tanks are free, and which have a blower. At first it is the zero value.
type state struct{ free, blowers bitset.Set }

// after returns the state to which a step leads that is possible, after the gas has spread.
func (n net) after(s state, step api.VnStep) state {
	if step.Off {
		s.blowers &^= bitset.Of(step.Tank)
	} else {
		s.blowers |= bitset.Of(step.Tank)
		s.free |= bitset.Of(step.Tank)
	}
	all := bitset.Below(len(n.Tanks))
	s.free = all &^ n.flood(all&^s.free, s.blowers)
	return s
}

// steps yields the steps that are possible in a state with at most so many blowers, in order, and the states to which they lead.
func (n net) steps(s state, blowers int) iter.Seq2[api.VnStep, state] {
	return func(yield func(api.VnStep, state) bool) {
		for tank := range n.Tanks {
			step := api.VnStep{Tank: tank, Off: s.blowers.Has(tank)}
			if !step.Off && (n.kept.Has(tank) || s.blowers.Count() >= blowers) {
				continue
			}
			if !yield(step, n.after(s, step)) {
				return
			}
		}
	}
}

// freed reports whether all wanted tanks are free in a state, and no tank has a blower.
func (n net) freed(s state) bool { return s.blowers == 0 && n.wanted&^s.free == 0 }

// arrival is how a state was reached first: from which one, and by which step.
type arrival struct {
	from state
	step api.VnStep
}

// plan returns the first of the shortest steps with at most so many blowers that free the wanted tanks; nil if there are none.
//
// States are reached in the order of the first of the shortest steps that lead to them, as the steps from each state are tried in order.
func (n net) plan(blowers int) []api.VnStep {
	by := map[state]arrival{{}: {}}
	for queue := []state{{}}; len(queue) > 0; queue = queue[1:] {
		from := queue[0]
		for step, s := range n.steps(from, blowers) {
			if _, known := by[s]; known {
				continue
			}
			by[s] = arrival{from, step}
			if n.freed(s) {
				return traced(by, s)
			}
			queue = append(queue, s)
		}
	}
	return nil
}

// traced returns the steps by which a state was reached.
func traced(by map[state]arrival, s state) []api.VnStep {
	var steps []api.VnStep
	for s != (state{}) {
		a := by[s]
		steps = append(steps, a.step)
		s = a.from
	}
	slices.Reverse(steps)
	return steps
}
