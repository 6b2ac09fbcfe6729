package waste

import (
	"orlop/api"
	"orlop/bitset"
)

// The nodes between which waste flows are the places, by their indices, and behind them these two.
const (
	outside = api.MaxWaPlaces + iota
	nowhere // where comes from what was there at first, and goes to what is there in the end
	nodes
)

// unlimited is more than all that can come together.
const unlimited = 1 << 40

// flow is how many kilograms can go from one node to another one.
type flow struct {
	api.Span
	from, to int
}

// node returns the node of a place, or of WaOutside.
func node(place int) int {
	if place == api.WaOutside {
		return outside
	}
	return place
}

// gone returns the flow of what went outside, and stays there. If more came from there it is below 0.
func gone() flow {
	return flow{api.Span{Lo: -unlimited, Hi: unlimited}, outside, nowhere}
}

// end is an end of what can be too much at some nodes: which ends of what comes there, and of what goes, lead to it.
type end struct{ comes, goes func(api.Span) int }

// ends returns the least end and the greatest one.
func ends() [2]end {
	lo := func(s api.Span) int { return s.Lo }
	hi := func(s api.Span) int { return s.Hi }
	return [...]end{{comes: lo, goes: hi}, {comes: hi, goes: lo}}
}

// surplus returns the least and the greatest that can come to the nodes of a set from others, less what goes to others, if each flow is any number that it can be.
func surplus(flows []flow, set bitset.Set) api.Span {
	var sums [2]int
	for i, x := range ends() {
		for _, f := range flows {
			switch from, to := set.Has(f.from), set.Has(f.to); {
			case to && !from:
				sums[i] += x.comes(f.Span)
			case from && !to:
				sums[i] -= x.goes(f.Span)
			}
		}
	}
	return api.Span{Lo: sums[0], Hi: sums[1]}
}

// over returns by how much there is too much at some places, whatever each flow is; below 0 if there is too little; otherwise 0.
func over(flows []flow, places bitset.Set) int {
	s := surplus(flows, places)
	return max(s.Lo, 0) + min(s.Hi, 0)
}

// narrowed returns the least and the greatest number of one of some flows with which the others can be such that nowhere there is too much or too little, if they can be so at all.
//
// What comes to a set of nodes that has the node from which this flow goes, but not the one to which it goes, and does not go on by other flows, goes by this one.
func narrowed(f flow, flows []flow) api.Span {
	can := f.Span
	for set := range bitset.Below(nodes) {
		if !set.Has(f.from) || set.Has(f.to) {
			continue
		}
		s := surplus(flows, set)
		can.Lo = max(can.Lo, s.Lo+f.Hi)
		can.Hi = min(can.Hi, s.Hi+f.Lo)
	}
	return can
}
