package block

import (
	"slices"
	"sort"

	"orlop/api"
	"orlop/bitset"
	"orlop/limits"
)

// allOf returns the set of all parts of a hull.
func allOf(h api.BlHull) bitset.Set { return bitset.Below(len(h.Parts)) }

// hangs reports whether the parts of a set hang together.
func hangs(h api.BlHull, set bitset.Set) bool {
	reached := set & -set
	for before := bitset.Set(0); before != reached; {
		before = reached
		for _, j := range h.Joints {
			ends := bitset.Of(j[:]...)
			if ends&^set == 0 && ends&reached != 0 {
				reached |= ends
			}
		}
	}
	return reached == set
}

// store keeps what was found of some keys.
type store[K comparable, V any] map[K]V

// get returns what is kept of a key; if nothing is, a function finds it.
func (s store[K, V]) get(key K, find func(K) V) V {
	if v, known := s[key]; known {
		return v
	}
	v := find(key)
	s[key] = v
	return v
}

// finding is what was found of a set of parts: whether they hang together, and the greatest number that they weigh together in a truth that agrees.
type finding struct {
	hangs bool
	kilos int
}

// wreck is a hull without an error and its weighings, that are looked at.
type wreck struct {
	api.BlHull
	weighed []api.BlWeighed
	tree    *node
	found   store[bitset.Set, finding]
}

func wreckOf(h api.BlHull, l []api.BlWeighed) *wreck {
	return &wreck{BlHull: h, weighed: l, tree: treeOf(h, l), found: store[bitset.Set, finding]{}}
}

// look returns the wreck of a hull and weighings; or the first error.
func look(h api.BlHull, l []api.BlWeighed) (*wreck, api.Errno) {
	if _, _, e := Check(h); e != api.OK {
		return nil, e
	}
	if e := weighingsFault(h, l); e != api.OK {
		return nil, e
	}
	w := wreckOf(h, l)
	if !w.agrees() {
		return nil, api.ErrDown
	}
	return w, api.OK
}

// lookAt returns the wreck of a hull and weighings, and one of its blocks; or the first error.
func lookAt(h api.BlHull, l []api.BlWeighed, block int) (*wreck, bitset.Set, api.Errno) {
	w, e := look(h, l)
	if e != api.OK {
		return nil, 0, e
	}
	if e := blockFault(h, block); e != api.OK {
		return nil, 0, e
	}
	return w, bitset.Set(block), api.OK
}

// lookFor returns the wreck of a hull and weighings, and the weight that has to be pulled if there are at most so many blocks; or the first error.
func lookFor(h api.BlHull, l []api.BlWeighed, blocks int) (*wreck, int, api.Errno) {
	w, e := look(h, l)
	if e != api.OK {
		return nil, 0, e
	}
	if !limits.Within(1, api.MaxBlParts, blocks) {
		return nil, 0, api.ErrRange
	}
	kilos, can := w.lightest(blocks)
	if !can {
		return nil, 0, api.ErrDown
	}
	return w, kilos, api.OK
}

// weight returns the least and the greatest number that the parts of a set weigh together in a truth that agrees.
func (w *wreck) weight(set bitset.Set) api.Span {
	most, _ := w.tree.extremes(set)
	_, least := w.tree.extremes(allOf(w.BlHull) &^ set)
	return api.Span{Lo: least, Hi: most}
}

// agrees reports whether some truth agrees. If none does, the parts of a node weigh too much or too little for its span, and the tree passes that up as if it were the weight of no parts, which otherwise is 0.
func (w *wreck) agrees() bool { return w.weight(0) == api.Span{} }

// limited returns the wreck with another weight of a part.
func (w *wreck) limited(part int, weight api.Span) *wreck {
	h := w.BlHull
	h.Parts = slices.Clone(h.Parts)
	h.Parts[part].Weight = weight
	return wreckOf(h, w.weighed)
}

// heaviest returns the numbers of all parts in the first truth that agrees in which a block weighs as much as in any.
func (w *wreck) heaviest(block bitset.Set) []int {
	most := w.weight(block).Hi
	var numbers []int
	for i, x := range w.Parts {
		from := x.Weight.Lo
		n := from + sort.Search(x.Weight.Hi-from, func(more int) bool {
			v := w.limited(i, api.Span{Lo: from, Hi: from + more})
			return v.agrees() && v.weight(block).Hi == most
		})
		w = w.limited(i, api.Span{Lo: n, Hi: n})
		numbers = append(numbers, n)
	}
	return numbers
}

// find returns what there is to find of a set of parts.
func (w *wreck) find(set bitset.Set) finding {
	return finding{hangs: hangs(w.BlHull, set), kilos: w.weight(set).Hi}
}

// pulls reports whether the winch pulls a weight on some sand.
func (w *wreck) pulls(kilos, sand int) bool { return kilos*sand <= w.Winch*api.All }

// bad reports whether a block does not hang together, or is too heavy. An empty set is not bad.
func (w *wreck) bad(block bitset.Set) bool {
	f := w.found.get(block, w.find)
	return !f.hangs || !w.pulls(f.kilos, w.Sand.Hi)
}

// firstBad returns the number of the first bad block of a cut; -1 if it is good.
func (w *wreck) firstBad(c cut) int { return slices.IndexFunc(c[:], w.bad) }

// lightest returns the least number of kilograms above which no block of some cut into at most so many blocks ever is; false if each of these cuts has a block that does not hang together.
func (w *wreck) lightest(blocks int) (kilos int, can bool) {
cuts:
	for c := range cuts(len(w.Parts), blocks) {
		most := 0
		for _, block := range c {
			f := w.found.get(block, w.find)
			if !f.hangs {
				continue cuts
			}
			most = max(most, f.kilos)
		}
		if !can || most < kilos {
			kilos, can = most, true
		}
	}
	return kilos, can
}

// does reports whether a cut into at most so many blocks is good.
func (w *wreck) does(blocks int) bool {
	kilos, can := w.lightest(blocks)
	return can && w.pulls(kilos, w.Sand.Hi)
}
