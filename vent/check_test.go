package vent_test

import (
	"slices"
	"strings"
	"testing"

	"orlop/api"
	"orlop/vent"
)

// checks checks that Check returns a part, an index and an error, and the other functions the same error, before all others.
func checks(t *testing.T, what any, n api.VnNet, part, at int, e api.Errno) {
	t.Helper()
	gotPart, gotAt, got := vent.Check(n)
	if gotPart != part || gotAt != at || got != e {
		t.Errorf("%v: Check = %d, %d, %d; want %d, %d, %d", what, gotPart, gotAt, got, part, at, e)
	}
	if e == api.OK {
		joins, e := vent.Joined(n, nil)
		if len(joins) != len(n.Tanks) || e != api.OK {
			t.Errorf("%v: Joined = %v, %d", what, joins, e)
		}
		return
	}
	for _, l := range [][]int{nil, {0}, {-1}, {1, 1}, {0, 5, least}, {greatest}} {
		joinedIs(t, what, n, l, nil, e)
		afterIs(t, what, n, l, nil, nil, nil, e)
		afterIs(t, what, n, l, steps(off(0)), nil, nil, e)
		afterIs(t, what, n, l, make([]api.VnStep, 61), nil, nil, e)
		for _, wanted := range [][]int{nil, {0}, {9}} {
			wayIs(t, what, n, l, wanted, nil, e)
			planIs(t, what, n, l, wanted, 1, nil, e)
			planIs(t, what, n, l, wanted, -1, nil, e)
			fewestIs(t, what, n, l, wanted, 0, e)
		}
		blanksAre(t, what, n, l, nil, e)
		waysAre(t, what, n, l, 0, e)
		provesIs(t, what, n, l, nil, false, e)
		provesIs(t, what, n, l, [][]int{{0}, nil, {least}}, false, e)
	}
}

// manyTanks is a net of so many tanks, as their names go, and of so many pipes.
func manyTanks(tanks, l int) api.VnNet {
	var n api.VnNet
	for i := range tanks {
		n.Tanks = append(n.Tanks, api.VnTank{Name: "t" + string(rune('0'+i%10)) + strings.Repeat("x", i/10%10)})
	}
	for range l {
		n.Pipes = append(n.Pipes, pipe(0, 1))
	}
	return n
}

// TestCheckCounts is P4.1: how many tanks and pipes there are.
func TestCheckCounts(t *testing.T) {
	for i, c := range []struct {
		tanks, pipes int
		e            api.Errno
	}{
		{1, 0, api.OK},
		{2, 0, api.OK},
		{2, 1, api.OK},
		{2, api.MaxVnPipes, api.OK},
		{2, api.MaxVnPipes + 1, api.ErrLong},
		{api.MaxVnTanks, 0, api.OK},
		{api.MaxVnTanks, api.MaxVnPipes, api.OK},
		{api.MaxVnTanks, api.MaxVnPipes + 1, api.ErrLong},
		{api.MaxVnTanks + 1, 0, api.ErrLong},
		{api.MaxVnTanks + 1, api.MaxVnPipes + 1, api.ErrLong},
		{0, 0, api.ErrLong},
		{0, 1, api.ErrLong},
		{0, api.MaxVnPipes + 1, api.ErrLong},
		{100000, 0, api.ErrLong},
		{2, 100000, api.ErrLong},
	} {
		part := 1
		if c.e == api.OK {
			part = 0
		}
		checks(t, i, manyTanks(c.tanks, c.pipes), part, 0, c.e)
	}
	if api.MaxVnTanks != 7 || api.MaxVnPipes != 12 || api.MaxVnSteps != 60 {
		t.Error("the limits are not those of the chapter")
	}
	checks(t, "empty lists", api.VnNet{Tanks: []api.VnTank{}, Pipes: []api.VnPipe{}}, 1, 0, api.ErrLong)
	checks(t, "no tank at all", api.VnNet{}, 1, 0, api.ErrLong)
	n := netOf("-")
	n.Pipes = []api.VnPipe{}
	checks(t, "an empty list of pipes", n, 0, 0, api.OK)
}

// TestCheckTanks is P4.1: the names of tanks, of which the first one with an error counts.
func TestCheckTanks(t *testing.T) {
	for i, c := range []struct {
		names []string
		at    int
		e     api.Errno
	}{
		{[]string{"a"}, 0, api.OK},
		{[]string{""}, 0, api.ErrForm},
		{[]string{"A"}, 0, api.ErrForm},
		{[]string{"1a"}, 0, api.ErrForm},
		{[]string{"a1"}, 0, api.OK},
		{[]string{"a b"}, 0, api.ErrForm},
		{[]string{"a\x00"}, 0, api.ErrForm},
		{[]string{"ä"}, 0, api.ErrForm},
		{[]string{"\xff"}, 0, api.ErrForm},
		{[]string{strings.Repeat("z", 16)}, 0, api.OK},
		{[]string{strings.Repeat("z", 17)}, 0, api.ErrForm},
		{[]string{strings.Repeat("z", 1<<20)}, 0, api.ErrForm},
		{[]string{"a", "a"}, 1, api.ErrTwice},
		{[]string{"a", "b", "a"}, 2, api.ErrTwice},
		{[]string{"a", "b", "b", "a"}, 2, api.ErrTwice},
		{[]string{"a", "b", "c", "d", "e", "f", "a"}, 6, api.ErrTwice},
		{[]string{"a", "b", "c", "d", "e", "f", "f"}, 6, api.ErrTwice},
		{[]string{"a", "b", "c", "d", "e", "f", "g"}, 0, api.OK},
		{[]string{"", ""}, 0, api.ErrForm},
		{[]string{"a", "", ""}, 1, api.ErrForm},
		{[]string{"a", "a", ""}, 1, api.ErrTwice},
		{[]string{"a", "", "a"}, 1, api.ErrForm},
	} {
		var n api.VnNet
		for _, name := range c.names {
			n.Tanks = append(n.Tanks, api.VnTank{Name: name})
		}
		part := 2
		if c.e == api.OK {
			part = 0
		}
		checks(t, i, n, part, c.at, c.e)
		for j := range n.Tanks {
			n.Tanks[j].Kept = true
		}
		checks(t, i, n, part, c.at, c.e)
	}
}

// TestCheckPipes is P4.1: the ends of pipes, of which the first one with an error counts.
func TestCheckPipes(t *testing.T) {
	for i, c := range []struct {
		pipes []api.VnPipe
		at    int
		e     api.Errno
	}{
		{pipes(pipe(0, 2)), 0, api.OK},
		{pipes(pipe(2, 0)), 0, api.OK},
		{pipes(pipe(0, 3)), 0, api.ErrNone},
		{pipes(pipe(3, 0)), 0, api.ErrNone},
		{pipes(pipe(3, 3)), 0, api.ErrNone}, // before they are the same
		{pipes(pipe(-1, -1)), 0, api.ErrNone},
		{pipes(pipe(0, 0)), 0, api.ErrArg},
		{pipes(pipe(2, 2)), 0, api.ErrArg},
		{pipes(pipe(0, 1), pipe(0, 1), pipe(1, 0)), 0, api.OK},
		{pipes(welded(0, 1), pipe(0, 1), welded(1, 0)), 0, api.OK},
		{pipes(pipe(0, 1), pipe(1, 1), pipe(0, 3)), 1, api.ErrArg},
		{pipes(pipe(0, 1), pipe(3, 0), pipe(1, 1)), 1, api.ErrNone},
		{pipes(pipe(0, 1), pipe(1, 2), welded(2, 2)), 2, api.ErrArg},
		{append(make([]api.VnPipe, 0), pipe(0, 1), welded(1, 3)), 1, api.ErrNone},
	} {
		part := 3
		if c.e == api.OK {
			part = 0
		}
		checks(t, i, netOf("-k-", c.pipes...), part, c.at, c.e)
	}
	for _, i := range append(far(), 3, 4, 7, 8) {
		checks(t, i, netOf("---", pipe(0, 1), pipe(i, 0)), 3, 1, api.ErrNone)
		checks(t, i, netOf("---", pipe(0, i), pipe(i, 0)), 3, 0, api.ErrNone)
		checks(t, i, netOf("---", pipe(i, i)), 3, 0, api.ErrNone)
		checks(t, i, netOf("---", pipe(i, -i)), 3, 0, api.ErrNone)
	}
}

// TestCheckOrder is P4.1 and R1: all of one part comes before the next one.
func TestCheckOrder(t *testing.T) {
	n := netOf("--", pipe(0, 0), pipe(9, 9))
	checks(t, "pipes", n, 3, 0, api.ErrArg)
	n.Tanks[1].Name = "a"
	checks(t, "tanks before pipes", n, 2, 1, api.ErrTwice)
	n.Tanks[0].Name = "?"
	checks(t, "the first tank", n, 2, 0, api.ErrForm)
	n.Pipes = make([]api.VnPipe, 13)
	checks(t, "13 pipes", n, 1, 0, api.ErrLong)
	n.Pipes = nil
	checks(t, "no pipes", n, 2, 0, api.ErrForm)
	n.Tanks = make([]api.VnTank, 8)
	checks(t, "8 tanks", n, 1, 0, api.ErrLong)
}

// indices is lists of indices of W's pipes or tanks, and their errors. Of both there are from 0 on so many, and the index 0 is barred: the pipe is Welded, and the tank is Kept.
func indices(things int) []struct {
	list []int
	e    api.Errno
} {
	type row = struct {
		list []int
		e    api.Errno
	}
	last := things - 1
	rows := []row{
		{ints(1), api.OK},
		{ints(last), api.OK},
		{ints(1, 2, last), api.OK},
		{ints(things), api.ErrNone},
		{ints(1, things), api.ErrNone},
		{ints(-1), api.ErrNone},
		{ints(0), api.ErrDown},
		{ints(0, 1), api.ErrDown},
		{ints(1, 1), api.ErrArg},
		{ints(2, 1), api.ErrArg},
		{ints(1, 3, 2), api.ErrArg},
		{ints(1, 2, 2), api.ErrArg},
		{ints(1, 3, 1), api.ErrArg},
		{ints(1, 0), api.ErrArg}, // not above, before it is barred
		{ints(2, -1), api.ErrNone},
		{ints(0, -1), api.ErrDown}, // the first one with an error
		{ints(1, 1, things), api.ErrArg},
		{ints(1, things, 1), api.ErrNone},
		{ints(things, 1, 0), api.ErrNone},
		{ints(things, things), api.ErrNone},
		{make([]int, 100000), api.ErrDown},
		{slices.Repeat(ints(last), 100000), api.ErrArg},
	}
	for _, i := range far() {
		rows = append(rows, row{ints(i), api.ErrNone}, row{ints(1, i), api.ErrNone}, row{ints(i, 1), api.ErrNone}, row{ints(i, i), api.ErrNone}, row{ints(1, 1, i), api.ErrArg})
	}
	return rows
}

// TestErrorOfBlanks is the error of blanks, and that it comes before all that the functions find afterwards.
func TestErrorOfBlanks(t *testing.T) {
	n := netW()
	for i, c := range indices(len(n.Pipes)) {
		if c.e == api.OK {
			if _, e := vent.Joined(n, c.list); e != api.OK {
				t.Errorf("%d: Joined: %d", i, e)
			}
			afterIs(t, i, n, c.list, nil, nil, nil, api.OK)
			continue
		}
		joinedIs(t, i, n, c.list, nil, c.e)
		for _, l := range [][]api.VnStep{nil, {on(9)}, {on(0)}, make([]api.VnStep, 61)} {
			afterIs(t, i, n, c.list, l, nil, nil, c.e)
		}
		for _, wanted := range [][]int{{1}, {4}, nil, {5}, {2, 2}, {0}} {
			wayIs(t, i, n, c.list, wanted, nil, c.e)
			fewestIs(t, i, n, c.list, wanted, 0, c.e)
			for _, blowers := range []int{1, 0, 8} {
				planIs(t, i, n, c.list, wanted, blowers, nil, c.e)
			}
		}
	}
	joinedIs(t, "an empty list", n, []int{}, ints(0, 0, 0, 0, 0), api.OK)
}

// TestErrorOfWanted is the error of wanted tanks, and that it comes before all that the functions find afterwards.
func TestErrorOfWanted(t *testing.T) {
	n := netW()
	rows := indices(len(n.Tanks))
	for _, l := range [][]int{nil, {}} {
		rows = append(rows, struct {
			list []int
			e    api.Errno
		}{l, api.ErrLong})
	}
	for i, c := range rows {
		if c.e == api.OK {
			// The pipes 0 and 1 lead to all wanted tanks.
			if l, e := vent.Way(n, nil, c.list); e != api.OK || l == nil {
				t.Errorf("%d: Way: %v, %d", i, l, e)
			}
			provesIs(t, i, n, c.list, nil, true, api.OK)
			fewestIs(t, i, n, nil, c.list, 0, api.ErrDown)
			continue
		}
		for _, blanks := range [][]int{nil, {1}, {2, 3, 4, 5}} {
			wayIs(t, i, n, blanks, c.list, nil, c.e)
			fewestIs(t, i, n, blanks, c.list, 0, c.e)
			for _, blowers := range []int{1, 0, 8, least} {
				planIs(t, i, n, blanks, c.list, blowers, nil, c.e)
			}
		}
		blanksAre(t, i, n, c.list, nil, c.e)
		waysAre(t, i, n, c.list, 0, c.e)
		for _, l := range [][][]int{nil, {{0}}, {{}}, {{least}}} {
			provesIs(t, i, n, c.list, l, false, c.e)
		}
	}
}

// TestErrorOfSteps is P4.2: the errors of steps, in their order.
func TestErrorOfSteps(t *testing.T) {
	n := netW()
	turns := func(length int) []api.VnStep {
		l := steps(on(1), off(1))
		return slices.Repeat(l, length)[:length]
	}
	for i, c := range []struct {
		steps []api.VnStep
		e     api.Errno
	}{
		{nil, api.OK},
		{steps(), api.OK},
		{steps(on(1)), api.OK},
		{steps(on(1), off(1)), api.OK},
		{steps(on(1), off(1), on(1)), api.OK},
		{steps(on(1), on(2), on(3), on(4)), api.OK},
		{steps(on(5)), api.ErrNone},
		{steps(off(5)), api.ErrNone},
		{steps(on(0)), api.ErrArg},
		{steps(off(0)), api.ErrArg},
		{steps(off(1)), api.ErrArg},
		{steps(on(1), on(1)), api.ErrArg},
		{steps(on(1), on(2), on(1)), api.ErrArg},
		{steps(on(1), off(2)), api.ErrArg},
		{steps(on(1), off(1), off(1)), api.ErrArg},
		{steps(on(1), on(2), off(1), off(2), off(1)), api.ErrArg},
		{steps(on(1), on(2), off(1), on(2)), api.ErrArg},
		{steps(on(1), on(0), on(5)), api.ErrArg},
		{steps(on(1), on(5), on(0)), api.ErrNone},
		{turns(api.MaxVnSteps - 1), api.OK},
		{turns(api.MaxVnSteps), api.OK},
		{turns(api.MaxVnSteps + 1), api.ErrLong},
		{append(steps(on(5), on(0)), turns(api.MaxVnSteps)...), api.ErrLong},
		{append(turns(api.MaxVnSteps-2), on(1), on(1)), api.ErrArg},
		{append(turns(api.MaxVnSteps-2), on(1), on(5)), api.ErrNone},
		{make([]api.VnStep, 100000), api.ErrLong},
	} {
		var s state
		if c.e == api.OK {
			s, _ = doesAll(t, n, nil, c.steps)
		}
		afterIs(t, i, n, nil, c.steps, s.free.list(), s.blown.list(), c.e)
	}
	for _, i := range far() {
		afterIs(t, i, n, nil, steps(on(i)), nil, nil, api.ErrNone)
		afterIs(t, i, n, nil, steps(off(i)), nil, nil, api.ErrNone)
		afterIs(t, i, n, nil, steps(on(1), off(1), off(i)), nil, nil, api.ErrNone)
		afterIs(t, i, n, nil, steps(off(1), on(i)), nil, nil, api.ErrArg)
	}
}

// TestErrorOfBlowers is P4.6: ErrRange before ErrDown.
func TestErrorOfBlowers(t *testing.T) {
	n := netN()
	for _, blowers := range []int{0, 8, -1, -7, 1<<32 + 1, -1<<32 + 1, 1 << 32, least, least + 1, greatest, greatest - 1} {
		planIs(t, blowers, n, ints(0, 2), ints(3), blowers, nil, api.ErrRange)
		planIs(t, blowers, n, nil, ints(3), blowers, nil, api.ErrRange)
	}
	for blowers := 1; blowers <= api.MaxVnTanks; blowers++ {
		planIs(t, blowers, n, nil, ints(3), blowers, nil, api.ErrDown)
		planIs(t, blowers, n, ints(3, 4), ints(3), blowers, steps(on(3), off(3)), api.OK)
	}
}
