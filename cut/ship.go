package cut

import (
	"slices"

	"orlop/api"
	"orlop/bitset"
	"orlop/limits"
	"orlop/stand"
	"orlop/vent"
)

// ship is a ship that is cut, of a task without an error: its free tanks, and of each set of parts that was looked at whether the hull with these alone surely stands.
type ship struct {
	api.CtTask
	free   bitset.Set
	stands map[bitset.Set]bool
}

// launch returns the ship of a task; or its error.
func launch(t api.CtTask) (*ship, api.Errno) {
	if _, _, e := Check(t); e != api.OK {
		return nil, e
	}
	after, _ := vent.After(t.Net, t.Blanks, t.Steps)
	return &ship{CtTask: t, free: bitset.Of(after.Free...), stands: map[bitset.Set]bool{}}, api.OK
}

// all returns the set of all parts.
func (s *ship) all() bitset.Set { return bitset.Below(len(s.Ship.Parts)) }

// areParts reports whether all numbers are indices of parts.
func (s *ship) areParts(numbers ...int) bool {
	return limits.Within(0, len(s.Ship.Parts)-1, numbers...)
}

// those returns the elements of a list whose indices are in a set.
func those[T any](list []T, in bitset.Set) []T {
	var l []T
	for i := range in.All() {
		l = append(l, list[i])
	}
	return l
}

// why returns why a part cannot be cut of a set that is left.
func (s *ship) why(left bitset.Set, part int) int {
	// The reasons are in the order of those of api, behind CtGood.
	reasons := [...]func(left bitset.Set, part int) bool{s.gone, s.laden, s.gassed, s.falls}
	for i, applies := range reasons {
		if applies(left, part) {
			return api.CtGone + i
		}
	}
	return api.CtGood
}

// gone reports whether a part is not in a set.
func (s *ship) gone(left bitset.Set, part int) bool { return !left.Has(part) }

// laden reports whether a part in a set stands on a part.
func (s *ship) laden(left bitset.Set, part int) bool {
	name := s.Ship.Parts[part].Name
	return slices.ContainsFunc(those(s.Ship.Parts, left), func(x api.HuPart) bool {
		return slices.Contains(x.On, name)
	})
}

// gassed reports whether a tank of a part is not free.
func (s *ship) gassed(_ bitset.Set, part int) bool {
	return bitset.Of(s.Tanks[part]...)&^s.free != 0
}

// falls reports whether a set has other parts with which the hull does not surely stand, without a part.
func (s *ship) falls(left bitset.Set, part int) bool {
	others := left.Without(part)
	if others == 0 {
		return false
	}
	stands, known := s.stands[others]
	if !known {
		h := s.Hull
		h.Parts = those(h.Parts, others)
		why, _, _ := stand.Why(h, s.Tide)
		stands = why == api.StStands
		s.stands[others] = stands
	}
	return !stands
}

// cuts returns the parts that can be cut of a set that is left.
func (s *ship) cuts(left bitset.Set) bitset.Set {
	var parts bitset.Set
	for part := range left.All() {
		if s.why(left, part) == api.CtGood {
			parts |= bitset.Of(part)
		}
	}
	return parts
}
