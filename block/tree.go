package block

import (
	"cmp"
	"slices"

	"orlop/api"
	"orlop/bitset"
)

// node is a set of parts that weigh together what is in its span: those of a weighing, or one part. Under it are the nodes that have only parts of it.
type node struct {
	api.Span
	parts bitset.Set
	under []*node
}

// treeOf returns the tree of the weighings and the parts of a hull without an error.
func treeOf(h api.BlHull, l []api.BlWeighed) *node {
	root := &node{Span: api.Span{Hi: api.MaxBlParts * api.MaxBlWeight}, parts: allOf(h)}
	// Of two sets the one that has all parts of the other one is the greater number: it has to hang first.
	larger := func(x, y api.BlWeighed) int { return cmp.Compare(y.Parts, x.Parts) }
	for _, x := range slices.SortedFunc(slices.Values(l), larger) {
		root.hang(&node{Span: x.Shown, parts: bitset.Set(x.Parts)})
	}
	for i, x := range h.Parts {
		root.hang(&node{Span: x.Weight, parts: bitset.Of(i)})
	}
	return root
}

// hang puts a node under the lowest one that has all of its parts.
func (n *node) hang(below *node) {
	for _, u := range n.under {
		if below.parts&^u.parts == 0 {
			u.hang(below)
			return
		}
	}
	n.under = append(n.under, below)
}

// extremes returns the greatest number that the parts of a set weigh together in a truth that agrees, and the least one that all others do.
//
// Each node passes up both numbers of its own parts. Its span ties them together: the parts of the set weigh at most what the span leaves if the others weigh their least, and the others at least what is missing in it if the parts of the set weigh their greatest. No more is lost, as each part is in just one of the nodes under a node.
func (n *node) extremes(set bitset.Set) (most, least int) {
	var pass func(n *node) (most, least int)
	pass = func(n *node) (most, least int) {
		switch {
		case len(n.under) > 0:
			for _, u := range n.under {
				m, l := pass(u)
				most += m
				least += l
			}
			return min(most, n.Hi-least), max(least, n.Lo-most)
		case n.parts&set != 0:
			return n.Hi, 0
		}
		return 0, n.Lo
	}
	return pass(n)
}
