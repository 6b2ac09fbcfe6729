package cut

import (
	"iter"
	"slices"

	"orlop/api"
	"orlop/bitset"
)

// ordered returns the ship of a task whose parts are the numbers of an order; or the first error.
func ordered(t api.CtTask, order []int) (*ship, api.Errno) {
	s, e := launch(t)
	if e != api.OK {
		return nil, e
	}
	if !s.areParts(order...) {
		return nil, api.ErrNone
	}
	return s, api.OK
}

// behind returns the ship of a task, and what is left behind a good order; or the first error.
func behind(t api.CtTask, order []int) (*ship, bitset.Set, api.Errno) {
	s, e := ordered(t, order)
	if e != api.OK {
		return nil, 0, e
	}
	left, _, why := s.follow(order)
	if why != api.CtGood {
		return nil, 0, api.ErrDown
	}
	return s, left, api.OK
}

// follow returns what is left behind an order, and -1 and CtGood; or what is left ahead of its first cut that cannot be made, the index of this cut, and why.
func (s *ship) follow(order []int) (left bitset.Set, at, why int) {
	left = s.all()
	for i, part := range order {
		if why := s.why(left, part); why != api.CtGood {
			return left, i, why
		}
		left = left.Without(part)
	}
	return left, -1, api.CtGood
}

// reached yields the sets that are left behind good orders, each with the first one of these. They come in the order of their orders: shorter ones before longer ones, and those of one length as they are compared.
//
// All orders behind which a set is left have the same length. As the cuts from each set are tried in order, that by which a set is reached first ends the first order.
func (s *ship) reached() iter.Seq2[bitset.Set, []int] {
	return func(yield func(bitset.Set, []int) bool) {
		orders := map[bitset.Set][]int{s.all(): nil}
		for queue := []bitset.Set{s.all()}; len(queue) > 0; queue = queue[1:] {
			left := queue[0]
			if !yield(left, slices.Clone(orders[left])) {
				return
			}
			for part := range s.cuts(left).All() {
				rest := left.Without(part)
				if _, known := orders[rest]; !known {
					orders[rest] = append(slices.Clone(orders[left]), part)
					queue = append(queue, rest)
				}
			}
		}
	}
}

// leading returns a function that reports whether all parts of a set that is left can be cut.
func (s *ship) leading() func(left bitset.Set) bool {
	known := map[bitset.Set]bool{0: true}
	var leads func(left bitset.Set) bool
	leads = func(left bitset.Set) bool {
		if whole, met := known[left]; met {
			return whole
		}
		whole := slices.ContainsFunc(s.cuts(left).List(), func(part int) bool {
			return leads(left.Without(part))
		})
		known[left] = whole
		return whole
	}
	return leads
}

// closed reports whether no cut leads on from a set that is given to one that is not.
func (s *ship) closed(given map[bitset.Set]bool) bool {
	closed := true
sets:
	for left := range given {
		for part := range s.cuts(left).All() {
			if !given[left.Without(part)] {
				closed = false
				break sets
			}
		}
	}
	return closed
}
