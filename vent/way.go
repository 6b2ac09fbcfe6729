package vent

import (
	"slices"

	"orlop/api"
	"orlop/bitset"
)

// trail is a way of gas that has not come to its end: from which tanks it can go on, and which ones it can no longer reach. At its beginning it can go on from all Kept tanks; afterwards from just one.
type trail struct{ heads, reached bitset.Set }

// start returns the trail without pipes.
func (n net) start() trail { return trail{heads: n.kept, reached: n.kept} }

// to returns the trail that has reached a further tank.
func (t trail) to(tank int) trail {
	return trail{heads: bitset.Of(tank), reached: t.reached | bitset.Of(tank)}
}

// next returns from which tank to which one a trail can go through a pipe, if it can.
func (n net) next(t trail, pipe int) (from, to int, can bool) {
	p := n.Pipes[pipe]
	for _, ends := range [2][2]int{{p.From, p.To}, {p.To, p.From}} {
		if t.heads.Has(ends[0]) && !t.reached.Has(ends[1]) {
			return ends[0], ends[1], true
		}
	}
	return 0, 0, false
}

// way returns the way of gas with the fewest pipes through which gas goes; of several the first one, and nil if there is none. A function tells whether gas goes through a pipe from a tank.
func (n net) way(goes func(pipe, from int) bool) []int {
	for length := 1; length < len(n.Tanks); length++ {
		if w := n.wayOf(length, goes); w != nil {
			return w
		}
	}
	return nil
}

// wayOf returns the first way of gas of so many pipes.
func (n net) wayOf(length int, goes func(pipe, from int) bool) []int {
	var way []int
	var find func(t trail, before []int)
	find = func(t trail, before []int) {
	pipes:
		for i := range n.Pipes {
			from, to, can := n.next(t, i)
			last := len(before) == length-1
			switch {
			case !can || n.wanted.Has(to) != last || !goes(i, from):
				continue
			case last:
				way = append(slices.Clone(before), i)
				break pipes
			}
			if find(t.to(to), append(before, i)); way != nil {
				break
			}
		}
	}
	find(n.start(), nil)
	return way
}

// openWay returns the open way of gas with the fewest pipes.
func (n net) openWay() []int {
	return n.way(func(pipe, _ int) bool { return !n.shut.Has(pipe) })
}

// isWay reports whether any numbers are the pipes of a way of gas.
func (n net) isWay(pipes []int) bool {
	t := n.start()
	for i, pipe := range pipes {
		if pipe < 0 || pipe >= len(n.Pipes) {
			return false
		}
		_, to, can := n.next(t, pipe)
		if !can || n.wanted.Has(to) != (i == len(pipes)-1) {
			return false
		}
		t = t.to(to)
	}
	return len(pipes) > 0
}

// flow is how much gas goes through each pipe, by its From to its To; below 0 it goes the other way.
type flow [api.MaxVnPipes]int

// along returns how much of a flow goes through a pipe from a tank.
func (n net) along(f flow, pipe, from int) int {
	if n.Pipes[pipe].From == from {
		return f[pipe]
	}
	return -f[pipe]
}

// send changes a flow by so much gas that goes along a way of gas.
func (n net) send(f *flow, way []int, gas int) {
	t := n.start()
	for _, i := range way {
		from, to, _ := n.next(t, i)
		if n.Pipes[i].From == from {
			f[i] += gas
		} else {
			f[i] -= gas
		}
		t = t.to(to)
	}
}

// ways returns as many open ways of gas as there can be, if no two of them have a pipe in common that is not Welded. Some blanks have to separate the wanted tanks.
func (n net) ways() [][]int {
	var f flow
	// A further way may go through a pipe against the flow, which ends there: so earlier ways never prevent that there are as many as there can be.
	room := func(pipe, from int) bool {
		return !n.shut.Has(pipe) && (n.Pipes[pipe].Welded || n.along(f, pipe, from) < 1)
	}
	for w := n.way(room); w != nil; w = n.way(room) {
		n.send(&f, w, 1)
	}
	flows := func(pipe, from int) bool { return n.along(f, pipe, from) > 0 }
	var ways [][]int
	for w := n.way(flows); w != nil; w = n.way(flows) {
		n.send(&f, w, -1)
		ways = append(ways, w)
	}
	return ways
}

// blanks returns the first of the fewest blanks that separate the wanted tanks, if some do.
func (n net) blanks() []int {
	var list []int
	left := len(n.ways())
	for _, i := range n.flanged().List() {
		// As many ways as there can be need as many blanks: a pipe is one of the fewest just if there are fewer ways without it.
		without := n.blanked(bitset.Of(i))
		if fewer := len(without.ways()); fewer < left {
			list = append(list, i)
			n, left = without, fewer
		}
	}
	return list
}
