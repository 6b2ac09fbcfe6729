package cut_test

import (
	"strings"
	"testing"

	"orlop/api"
	"orlop/cut"
)

// checks checks that Check returns a part, an index and an error, and the other functions the same error, before all others.
func checks(t *testing.T, what any, task api.CtTask, part, at int, e api.Errno) {
	t.Helper()
	gotPart, gotAt, got := cut.Check(task)
	if gotPart != part || gotAt != at || got != e {
		t.Errorf("%v: Check = %d, %d, %d; want %d, %d, %d", what, gotPart, gotAt, got, part, at, e)
	}
	if e == api.OK {
		if _, _, e := cut.Bad(task, nil); e != api.OK {
			t.Errorf("%v: Bad has the error %d", what, e)
		}
		return
	}
	for _, l := range [][]int{nil, {0}, {0, 0}, {-1}, {1, greatest}} {
		badIs(t, what, task, l, 0, 0, e)
		mayIs(t, what, task, l, nil, e)
		nextIs(t, what, task, l, nil, e)
		provesIs(t, what, task, l, false, e)
	}
	firstIs(t, what, task, nil, e)
	mostIs(t, what, task, nil, e)
	proofIs(t, what, task, nil, e)
	for _, part := range ints(0, 2, 3, least) {
		toIs(t, what, task, part, nil, e)
	}
}

// changed is T with a change.
func changed(change func(t *api.CtTask)) api.CtTask {
	t := taskT()
	change(&t)
	return t
}

// TestCheckShip is P6.1: the error of the ship, with its index, whatever it is.
func TestCheckShip(t *testing.T) {
	for i, c := range []struct {
		change func(l []api.HuPart)
		at     int
		e      api.Errno
	}{
		{func(l []api.HuPart) {}, 0, api.OK},
		{func(l []api.HuPart) { l[0].Name = "" }, 0, api.ErrForm},
		{func(l []api.HuPart) { l[2].Name = "Stern" }, 2, api.ErrForm},
		{func(l []api.HuPart) { l[2].Name = strings.Repeat("s", 17) }, 2, api.ErrForm},
		{func(l []api.HuPart) { l[1].Name = "bow" }, 1, api.ErrTwice},
		{func(l []api.HuPart) { l[2].Name = "bow" }, 2, api.ErrTwice},
		{func(l []api.HuPart) { l[1].Kind = 0 }, 1, api.ErrRange},
		{func(l []api.HuPart) { l[1].Kind = 6 }, 1, api.ErrRange},
		{func(l []api.HuPart) { l[1].Last = 41 }, 1, api.ErrRange},
		{func(l []api.HuPart) { l[2].Weight.Lo = 0 }, 2, api.ErrRange},
		{func(l []api.HuPart) { l[0].First = 11 }, 0, api.ErrArg},
		{func(l []api.HuPart) { l[0].Weight = span(2, 1) }, 0, api.ErrArg},
		{func(l []api.HuPart) { l[0].On = []string{"mid"} }, 0, api.ErrNone},
		{func(l []api.HuPart) { l[1].On = []string{"mid"} }, 1, api.ErrNone},
		{func(l []api.HuPart) { l[1].On = []string{"bow", "bow"} }, 1, api.ErrTwice},
		{func(l []api.HuPart) { l[2].On = []string{"bow"} }, 2, api.ErrDown},
		{func(l []api.HuPart) { l[2].On = []string{"mid"} }, 0, api.OK},
		{func(l []api.HuPart) { l[1].Kind, l[2].Name = greatest, "" }, 1, api.ErrRange},
	} {
		task := taskT()
		c.change(task.Ship.Parts)
		part := 1
		if c.e == api.OK {
			part = 0
		}
		checks(t, i, task, part, c.at, c.e)
	}
	checks(t, "12 parts", changed(func(t *api.CtTask) { t.Ship = easy(12).Ship }), 2, 0, api.ErrLong)
	checks(t, "13 parts", changed(func(t *api.CtTask) { t.Ship = easy(13).Ship }), 1, 0, api.ErrLong)
	checks(t, "no parts", changed(func(t *api.CtTask) { t.Ship = api.HuShip{} }), 2, 0, api.ErrLong)
	for _, n := range far() {
		checks(t, n, changed(func(t *api.CtTask) { t.Ship.Parts[2].First = n }), 1, 2, api.ErrRange)
		checks(t, n, changed(func(t *api.CtTask) { t.Ship.Parts[2].Kind = n }), 1, 2, api.ErrRange)
	}
}

// TestCheckHull is P6.1: the error of the hull, how many parts it has, and how they are named. Its index is 0 but for a name that is another one.
func TestCheckHull(t *testing.T) {
	for i, c := range []struct {
		change func(t *api.CtTask)
		at     int
		e      api.Errno
	}{
		{func(t *api.CtTask) { t.Hull = api.StHull{} }, 0, api.ErrLong},
		{func(t *api.CtTask) { t.Ship, t.Hull = api.HuShip{}, api.StHull{} }, 0, api.ErrLong},
		{func(t *api.CtTask) { t.Hull = easy(11).Hull }, 0, api.ErrLong},
		{func(t *api.CtTask) { t.Hull.Aft = -1 }, 0, api.ErrRange},
		{func(t *api.CtTask) { t.Hull.Fore = 5001 }, 0, api.ErrRange},
		{func(t *api.CtTask) { t.Hull.Aft = 800 }, 0, api.ErrArg},
		{func(t *api.CtTask) { t.Hull.Parts[2].Name = "" }, 0, api.ErrForm}, // its index is 0, whatever that in the hull is
		{func(t *api.CtTask) { t.Hull.Parts[2].Name = "mid" }, 0, api.ErrTwice},
		{func(t *api.CtTask) { t.Hull.Parts[1].At = 5001 }, 0, api.ErrRange},
		{func(t *api.CtTask) { t.Hull.Parts[1].Weight = span(2, 1) }, 0, api.ErrArg},
		{func(t *api.CtTask) { t.Hull.Parts = t.Hull.Parts[:2] }, 0, api.ErrLong},
		{func(t *api.CtTask) { t.Ship.Parts = t.Ship.Parts[:2] }, 0, api.ErrLong},
		{func(t *api.CtTask) { t.Hull = easy(4).Hull }, 0, api.ErrLong},
		{func(t *api.CtTask) { t.Hull.Parts[0].Name = "bow1" }, 0, api.ErrNone},
		{func(t *api.CtTask) { t.Hull.Parts[1].Name = "mid1" }, 1, api.ErrNone},
		{func(t *api.CtTask) { t.Hull.Parts[2].Name = "ster" }, 2, api.ErrNone},
		{func(t *api.CtTask) { t.Ship.Parts[2].Name = "ster" }, 2, api.ErrNone},
		{func(t *api.CtTask) { t.Hull.Parts[1].Name, t.Hull.Parts[2].Name = "stern", "mid" }, 1, api.ErrNone}, // in another order
		{func(t *api.CtTask) { t.Hull.Parts[0], t.Hull.Parts[2] = t.Hull.Parts[2], t.Hull.Parts[0] }, 0, api.ErrNone},
		{func(t *api.CtTask) { t.Hull.Parts[0].Name, t.Hull.Parts[1].At = "x", 5001 }, 0, api.ErrRange}, // before the names
		{func(t *api.CtTask) { t.Hull.Parts[0].Name, t.Hull.Parts = "x", t.Hull.Parts[:2] }, 0, api.ErrLong},
	} {
		checks(t, i, changed(c.change), 2, c.at, c.e)
	}
	for n := 1; n <= 12; n++ {
		switch {
		case n <= api.MaxCtParts:
			checks(t, n, easy(n), 0, 0, api.OK)
		default:
			checks(t, n, easy(n), 2, 0, api.ErrLong)
		}
	}
	for _, n := range far() {
		checks(t, n, changed(func(t *api.CtTask) { t.Hull.Parts[2].Keel = n }), 2, 0, api.ErrRange)
		checks(t, n, changed(func(t *api.CtTask) { t.Hull.Fore = n }), 2, 0, api.ErrRange)
	}
	if api.MaxCtParts != 7 || api.CtGood != 0 || api.CtGone != 1 || api.CtAbove != 2 || api.CtGas != 3 || api.CtFalls != 4 {
		t.Error("the limit and the reasons are not those of the chapter")
	}
}

// TestCheckTide is P6.1: the error of the tide.
func TestCheckTide(t *testing.T) {
	for i, c := range []struct {
		lo, hi int
		e      api.Errno
	}{
		{0, 0, api.OK},
		{0, 1000, api.OK},
		{1000, 1000, api.OK},
		{60, 59, api.ErrArg},
		{1000, 0, api.ErrArg},
		{-1, 60, api.ErrRange},
		{0, 1001, api.ErrRange},
		{1001, 0, api.ErrRange}, // before Lo is above Hi
		{5, -1, api.ErrRange},
		{least, greatest, api.ErrRange},
		{greatest, least, api.ErrRange},
	} {
		part := 3
		if c.e == api.OK {
			part = 0
		}
		checks(t, i, flooded(taskT(), c.lo, c.hi), part, 0, c.e)
	}
	for _, n := range far() {
		checks(t, n, flooded(taskT(), n, 60), 3, 0, api.ErrRange)
		checks(t, n, flooded(taskT(), 0, n), 3, 0, api.ErrRange)
	}
}

// TestCheckNet is P6.1: the error of the net, the blanks and the steps, without its index.
func TestCheckNet(t *testing.T) {
	for i, c := range []struct {
		change func(t *api.CtTask)
		e      api.Errno
	}{
		{func(t *api.CtTask) { t.Net = api.VnNet{} }, api.ErrLong},
		{func(t *api.CtTask) { t.Net.Tanks = make([]api.VnTank, 8) }, api.ErrLong},
		{func(t *api.CtTask) { t.Net.Pipes = make([]api.VnPipe, 13) }, api.ErrLong},
		{func(t *api.CtTask) { t.Net.Tanks[2].Name = "C" }, api.ErrForm},
		{func(t *api.CtTask) { t.Net.Tanks[2].Name = "b" }, api.ErrTwice},
		{func(t *api.CtTask) { t.Net.Pipes[4].To = 5 }, api.ErrNone},
		{func(t *api.CtTask) { t.Net.Pipes[4].To = 3 }, api.ErrArg},
		{func(t *api.CtTask) { t.Blanks = ints(3, 6) }, api.ErrNone},
		{func(t *api.CtTask) { t.Blanks = ints(5, 3) }, api.ErrArg},
		{func(t *api.CtTask) { t.Net.Pipes[3].Welded = true }, api.ErrDown},
		{func(t *api.CtTask) { t.Steps = make([]api.VnStep, 61) }, api.ErrLong},
		{func(t *api.CtTask) { t.Steps[3].Tank = 5 }, api.ErrNone},
		{func(t *api.CtTask) { t.Steps[3].Off = false }, api.ErrArg},
		{func(t *api.CtTask) { t.Steps[0].Tank = 0 }, api.ErrArg},
		{func(t *api.CtTask) { t.Blanks, t.Steps = ints(6), make([]api.VnStep, 61) }, api.ErrNone},
	} {
		checks(t, i, changed(c.change), 4, 0, c.e)
	}
	for _, n := range far() {
		checks(t, n, changed(func(t *api.CtTask) { t.Blanks = ints(n) }), 4, 0, api.ErrNone)
		checks(t, n, changed(func(t *api.CtTask) { t.Steps[0].Tank = n }), 4, 0, api.ErrNone)
	}
	checks(t, "60 steps", changed(func(t *api.CtTask) {
		t.Steps = nil
		for i := range api.MaxVnSteps {
			t.Steps = append(t.Steps, api.VnStep{Tank: 3, Off: i%2 == 1})
		}
	}), 0, 0, api.OK)
}

// TestCheckTanks is P6.1: how many lists of tanks there are, and the first number with an error of the first list with one.
func TestCheckTanks(t *testing.T) {
	for i, c := range []struct {
		tanks [][]int
		at    int
		e     api.Errno
	}{
		{[][]int{nil, {3, 4}, nil}, 0, api.OK},
		{[][]int{nil, nil, nil}, 0, api.OK},
		{[][]int{{}, {}, {}}, 0, api.OK},
		{[][]int{{0, 1, 2, 3, 4}, {0}, {4}}, 0, api.OK},
		{nil, 0, api.ErrLong},
		{[][]int{}, 0, api.ErrLong},
		{[][]int{nil, {3, 4}}, 0, api.ErrLong},
		{[][]int{nil, {3, 4}, nil, nil}, 0, api.ErrLong},
		{[][]int{{5}, {3, 4}}, 0, api.ErrLong}, // before the lists
		{make([][]int, 100000), 0, api.ErrLong},
		{[][]int{{5}, nil, nil}, 0, api.ErrNone},
		{[][]int{nil, {3, 5}, nil}, 1, api.ErrNone},
		{[][]int{nil, nil, {-1}}, 2, api.ErrNone},
		{[][]int{{3, 3}, nil, nil}, 0, api.ErrArg},
		{[][]int{nil, {4, 3}, nil}, 1, api.ErrArg},
		{[][]int{nil, nil, {0, 0}}, 2, api.ErrArg},
		{[][]int{nil, nil, {0, 1, 4, 2}}, 2, api.ErrArg},
		{[][]int{nil, {3, 3, 5}, {5}}, 1, api.ErrArg}, // the first number with one
		{[][]int{nil, {3, 5, 3}, {1, 1}}, 1, api.ErrNone},
		{[][]int{nil, {4, -1}, nil}, 1, api.ErrNone}, // it is no index, and below the one before it
		{[][]int{nil, {1, 0}, {5}}, 1, api.ErrArg},
		{[][]int{make([]int, 100000), {5}, nil}, 0, api.ErrArg},
	} {
		part := 5
		if c.e == api.OK {
			part = 0
		}
		task := taskT()
		task.Tanks = c.tanks
		checks(t, i, task, part, c.at, c.e)
	}
	for _, n := range far() {
		checks(t, n, tanked(taskT(), stern, n), 5, 2, api.ErrNone)
		checks(t, n, tanked(taskT(), bow, 0, n), 5, 0, api.ErrNone)
	}
}

// TestCheckOrder is P6.1, R1: of the errors of several parts that of the first one is returned.
func TestCheckOrder(t *testing.T) {
	wrong := []func(t *api.CtTask){
		func(t *api.CtTask) { t.Tanks[1] = ints(4, 4) },
		func(t *api.CtTask) { t.Tanks[0] = ints(9) },
		func(t *api.CtTask) { t.Tanks = t.Tanks[:2] },
		func(t *api.CtTask) { t.Blanks = ints(-1) },
		func(t *api.CtTask) { t.Tide = span(9, 8) },
		func(t *api.CtTask) { t.Tide.Lo = -1 },
		func(t *api.CtTask) { t.Hull.Parts[1].Name = "x" },
		func(t *api.CtTask) { t.Hull.Parts[0].Name = "y" },
		func(t *api.CtTask) { t.Ship.Parts = append(t.Ship.Parts, easy(1).Ship.Parts...) },
		func(t *api.CtTask) { t.Hull.Fore = 0 },
		func(t *api.CtTask) { t.Ship.Parts[2].Kind = 0 },
		func(t *api.CtTask) { t.Ship.Parts[1].On = []string{"stern"} },
	}
	want := []struct {
		part, at int
		e        api.Errno
	}{
		{5, 1, api.ErrArg},
		{5, 0, api.ErrNone},
		{5, 0, api.ErrLong},
		{4, 0, api.ErrNone},
		{3, 0, api.ErrArg},
		{3, 0, api.ErrRange},
		{2, 1, api.ErrNone},
		{2, 0, api.ErrNone},
		{2, 0, api.ErrLong},
		{2, 0, api.ErrArg},
		{1, 2, api.ErrRange},
		{1, 1, api.ErrNone},
	}
	task := taskT()
	for i, c := range want {
		wrong[i](&task)
		checks(t, i, task, c.part, c.at, c.e)
	}
	checks(t, "nothing", api.CtTask{}, 2, 0, api.ErrLong)
}
