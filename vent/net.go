package vent

import (
	"orlop/api"
	"orlop/bitset"
)

// net is a net without an error that is looked at: which of its pipes are shut by blanks, and which of its tanks keep their gas or are wanted.
type net struct {
	api.VnNet
	shut, kept, wanted bitset.Set
}

// behind returns a net behind blanks; or the first error.
func behind(n api.VnNet, blanks []int) (net, api.Errno) {
	if _, _, e := Check(n); e != api.OK {
		return net{}, e
	}
	if f := caught(func() { checkBlanks(n, blanks) }); f != (fault{}) {
		return net{}, f.e
	}
	v := net{VnNet: n, shut: bitset.Of(blanks...)}
	for i, t := range n.Tanks {
		if t.Kept {
			v.kept |= bitset.Of(i)
		}
	}
	return v, api.OK
}

// wanting returns a net behind blanks, with wanted tanks; or the first error.
func wanting(n api.VnNet, blanks, wanted []int) (net, api.Errno) {
	v, e := behind(n, blanks)
	if e != api.OK {
		return net{}, e
	}
	if f := caught(func() { checkWanted(n, wanted) }); f != (fault{}) {
		return net{}, f.e
	}
	v.wanted = bitset.Of(wanted...)
	return v, api.OK
}

// blanked returns the net with further pipes shut.
func (n net) blanked(pipes bitset.Set) net {
	n.shut |= pipes
	return n
}

// flanged returns the pipes that can be blanked.
func (n net) flanged() bitset.Set {
	var pipes bitset.Set
	for i, p := range n.Pipes {
		if !p.Welded {
			pipes |= bitset.Of(i)
		}
	}
	return pipes
}

// flood returns the tanks into which gas comes from some through open pipes, with these, but for those that hold it off.
func (n net) flood(gas, holding bitset.Set) bitset.Set {
	for before := bitset.Set(0); before != gas; {
		before = gas
		for i, p := range n.Pipes {
			ends := bitset.Of(p.From, p.To)
			if !n.shut.Has(i) && gas&ends != 0 {
				gas |= ends &^ holding
			}
		}
	}
	return gas
}

// separated reports whether no wanted tank is joined to a Kept one.
func (n net) separated() bool { return n.flood(n.kept, 0)&n.wanted == 0 }
