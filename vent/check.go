package vent

import (
	"slices"

	"orlop/api"
	"orlop/hull"
	"orlop/limits"
)

// Check returns the part, the index in it and the error of a net. The part is 1 for how many tanks and pipes there are, 2 for the tanks, and 3 for the pipes.
func Check(n api.VnNet) (part, at int, e api.Errno) {
	if !limits.Within(1, api.MaxVnTanks, len(n.Tanks)) || !limits.Within(0, api.MaxVnPipes, len(n.Pipes)) {
		return 1, 0, api.ErrLong
	}
	if f := caught(func() { checkTanks(n.Tanks) }); f != (fault{}) {
		return 2, f.at, f.e
	}
	if f := caught(func() { checkPipes(n) }); f != (fault{}) {
		return 3, f.at, f.e
	}
	return 0, 0, api.OK
}

// fault is an error of a list, and its first element that has one. The checks of lists leave by a panic with it.
type fault struct {
	at int
	e  api.Errno
}

// caught runs the check of a list and returns the fault by which it left; the zero value if it came to its end.
func caught(check func()) (f fault) {
	defer func() { f, _ = recover().(fault) }()
	check()
	return fault{}
}

// rule is an error of the elements of a list, and which of them have it: a function tells it from an element and from those before it.
type rule[T any] struct {
	e      api.Errno
	broken func(x T, before []T) bool
}

// inspect panics with the fault of a list whose elements are to keep to some rules, if it has one.
func inspect[T any](list []T, rules ...rule[T]) {
	for i, x := range list {
		for _, r := range rules {
			if r.broken(x, list[:i]) {
				panic(fault{i, r.e})
			}
		}
	}
}

func checkTanks(tanks []api.VnTank) {
	inspect(tanks,
		rule[api.VnTank]{api.ErrForm, func(t api.VnTank, _ []api.VnTank) bool { return !hull.Name(t.Name) }},
		rule[api.VnTank]{api.ErrTwice, func(t api.VnTank, before []api.VnTank) bool {
			return slices.ContainsFunc(before, func(u api.VnTank) bool { return u.Name == t.Name })
		}})
}

func checkPipes(n api.VnNet) {
	inspect(n.Pipes,
		rule[api.VnPipe]{api.ErrNone, func(p api.VnPipe, _ []api.VnPipe) bool { return !limits.Within(0, len(n.Tanks)-1, p.From, p.To) }},
		rule[api.VnPipe]{api.ErrArg, func(p api.VnPipe, _ []api.VnPipe) bool { return p.From == p.To }})
}

func checkBlanks(n api.VnNet, blanks []int) {
	checkIndices(blanks, len(n.Pipes), func(i int) bool { return n.Pipes[i].Welded })
}

func checkWanted(n api.VnNet, wanted []int) {
	if len(wanted) == 0 {
		panic(fault{0, api.ErrLong})
	}
	checkIndices(wanted, len(n.Tanks), func(i int) bool { return n.Tanks[i].Kept })
}

// checkIndices checks a list of indices of so many things, ascending, which are none of the barred ones.
func checkIndices(list []int, things int, barred func(i int) bool) {
	inspect(list,
		rule[int]{api.ErrNone, func(i int, _ []int) bool { return !limits.Within(0, things-1, i) }},
		rule[int]{api.ErrArg, func(i int, before []int) bool { return len(before) > 0 && i <= before[len(before)-1] }},
		rule[int]{api.ErrDown, func(i int, _ []int) bool { return barred(i) }})
}

func checkSteps(n api.VnNet, steps []api.VnStep) {
	if len(steps) > api.MaxVnSteps {
		panic(fault{0, api.ErrLong})
	}
	inspect(steps,
		rule[api.VnStep]{api.ErrNone, func(s api.VnStep, _ []api.VnStep) bool { return !limits.Within(0, len(n.Tanks)-1, s.Tank) }},
		rule[api.VnStep]{api.ErrArg, func(s api.VnStep, before []api.VnStep) bool {
			return n.Tanks[s.Tank].Kept || s.Off != blown(s.Tank, before)
		}})
}

// blown reports whether a tank has a blower after steps without an error.
func blown(tank int, steps []api.VnStep) bool {
	on := false
	for _, s := range steps {
		if s.Tank == tank {
			on = !s.Off
		}
	}
	return on
}
