package block_test

import (
	"strings"
	"testing"

	"orlop/api"
	"orlop/block"
)

// failsWith checks that all functions but Check return an error and nothing else, whatever else they are handed.
func failsWith(t *testing.T, what any, h api.BlHull, l []api.BlWeighed, e api.Errno) {
	t.Helper()
	weightsAre(t, what, h, l, nil, e)
	fewestIs(t, what, h, l, nil, e)
	for _, n := range ints(0, 1, 2, 3, 5, 9, -1, 1<<20, least, greatest) {
		pullIs(t, what, h, l, n, span(0, 0), e)
		heaviestIs(t, what, h, l, n, nil, e)
		winchIs(t, what, h, l, n, 0, e)
		sandIs(t, what, h, l, n, 0, e)
	}
	for _, cut := range [][]int{nil, {0}, {0, 0, 0, 0}, {1, 0, 0, 0}, {-1}, {0, greatest}} {
		badIs(t, what, h, l, cut, 0, e)
	}
}

// checks checks that Check returns a part, an index and an error, and the other functions the same error, before all others.
func checks(t *testing.T, what any, h api.BlHull, part, at int, e api.Errno) {
	t.Helper()
	if gotPart, gotAt, got := block.Check(h); gotPart != part || gotAt != at || got != e {
		t.Errorf("%v: Check = %d, %d, %d; want %d, %d, %d", what, gotPart, gotAt, got, part, at, e)
	}
	if e == api.OK {
		if _, e := block.Weights(h, nil); e != api.OK {
			t.Errorf("%v: Weights has the error %d", what, e)
		}
		return
	}
	for _, l := range [][]api.BlWeighed{nil, {weighed(1, 0, api.MaxBlShown)}, {weighed(0, 2, 1)}, {weighed(1, 0, 0), weighed(1, 1, 1)}, make([]api.BlWeighed, 7)} {
		failsWith(t, what, h, l, e)
	}
}

// changed is H with a change.
func changed(change func(h *api.BlHull)) api.BlHull {
	h := sampleH()
	change(&h)
	return h
}

// TestCheckFrame is P7.1: how many parts and joints there are, the sand and the winch.
func TestCheckFrame(t *testing.T) {
	for i, c := range []struct {
		change func(h *api.BlHull)
		e      api.Errno
	}{
		{func(h *api.BlHull) {}, api.OK},
		{func(h *api.BlHull) { h.Parts = nil }, api.ErrLong},
		{func(h *api.BlHull) { h.Parts, h.Joints = []api.BlPart{}, nil }, api.ErrLong},
		{func(h *api.BlHull) { h.Parts, h.Joints = h.Parts[:1], nil }, api.OK},
		{func(h *api.BlHull) { h.Parts = make([]api.BlPart, 9) }, api.ErrLong},
		{func(h *api.BlHull) { h.Parts = make([]api.BlPart, 100000) }, api.ErrLong},
		{func(h *api.BlHull) { h.Joints = nil }, api.OK},
		{func(h *api.BlHull) { h.Joints = make([][2]int, 13) }, api.ErrLong},
		{func(h *api.BlHull) { h.Joints = make([][2]int, 100000) }, api.ErrLong},
		{func(h *api.BlHull) { h.Joints, h.Sand = make([][2]int, 13), span(0, 0) }, api.ErrLong}, // before the sand
		{func(h *api.BlHull) { h.Sand = span(0, 600) }, api.ErrRange},
		{func(h *api.BlHull) { h.Sand = span(1, 2000) }, api.OK},
		{func(h *api.BlHull) { h.Sand = span(1, 1) }, api.OK},
		{func(h *api.BlHull) { h.Sand = span(2000, 2000) }, api.OK},
		{func(h *api.BlHull) { h.Sand = span(500, 2001) }, api.ErrRange},
		{func(h *api.BlHull) { h.Sand = span(500, 0) }, api.ErrRange}, // before Lo is above Hi
		{func(h *api.BlHull) { h.Sand = span(2001, 500) }, api.ErrRange},
		{func(h *api.BlHull) { h.Sand = span(501, 500) }, api.ErrArg},
		{func(h *api.BlHull) { h.Sand = span(2000, 1) }, api.ErrArg},
		{func(h *api.BlHull) { h.Winch = 0 }, api.ErrRange},
		{func(h *api.BlHull) { h.Winch = 1 }, api.OK},
		{func(h *api.BlHull) { h.Winch = 10000000 }, api.OK},
		{func(h *api.BlHull) { h.Winch = 10000001 }, api.ErrRange},
		{func(h *api.BlHull) { h.Winch, h.Sand = 0, span(2, 1) }, api.ErrRange}, // before Lo of Sand is above Hi
	} {
		part := 1
		if c.e == api.OK {
			part = 0
		}
		checks(t, i, changed(c.change), part, 0, c.e)
	}
	for _, n := range far() {
		checks(t, n, changed(func(h *api.BlHull) { h.Sand.Lo = n }), 1, 0, api.ErrRange)
		checks(t, n, changed(func(h *api.BlHull) { h.Sand.Hi = n }), 1, 0, api.ErrRange)
		checks(t, n, changed(func(h *api.BlHull) { h.Winch = n }), 1, 0, api.ErrRange)
	}
	for n := 1; n <= 9; n++ {
		if n <= api.MaxBlParts {
			checks(t, n, known(make([]int, n)...), 0, 0, api.OK)
		} else {
			checks(t, n, known(make([]int, n)...), 1, 0, api.ErrLong)
		}
	}
	if api.MaxBlParts != 8 || api.MaxBlJoints != 12 || api.MaxBlWeight != 100000 || api.MaxBlSand != 2000 || api.MaxBlWinch != 10000000 || api.MaxBlWeighed != 6 || api.MaxBlShown != 1000000 {
		t.Error("the limits are not those of the chapter")
	}
}

// TestCheckParts is P7.1: the first part with an error.
func TestCheckParts(t *testing.T) {
	for i, c := range []struct {
		change func(l []api.BlPart)
		at     int
		e      api.Errno
	}{
		{func(l []api.BlPart) { l[0].Name = "" }, 0, api.ErrForm},
		{func(l []api.BlPart) { l[3].Name = "D" }, 3, api.ErrForm},
		{func(l []api.BlPart) { l[2].Name = "1c" }, 2, api.ErrForm},
		{func(l []api.BlPart) { l[2].Name = strings.Repeat("c", 16) }, 0, api.OK},
		{func(l []api.BlPart) { l[2].Name = strings.Repeat("c", 17) }, 2, api.ErrForm},
		{func(l []api.BlPart) { l[2].Name, l[2].Weight = "C", span(-1, 0) }, 2, api.ErrForm}, // before the weight
		{func(l []api.BlPart) { l[1].Name = "a" }, 1, api.ErrTwice},
		{func(l []api.BlPart) { l[3].Name = "b" }, 3, api.ErrTwice},
		{func(l []api.BlPart) { l[3].Name, l[3].Weight = "a", span(-1, 0) }, 3, api.ErrTwice},
		{func(l []api.BlPart) { l[1].Name, l[2].Name = "", "" }, 1, api.ErrForm},
		{func(l []api.BlPart) { l[1].Weight = span(-1, 5) }, 1, api.ErrRange},
		{func(l []api.BlPart) { l[1].Weight = span(0, 0) }, 0, api.OK},
		{func(l []api.BlPart) { l[1].Weight = span(0, 100000) }, 0, api.OK},
		{func(l []api.BlPart) { l[1].Weight = span(100000, 100000) }, 0, api.OK},
		{func(l []api.BlPart) { l[1].Weight = span(0, 100001) }, 1, api.ErrRange},
		{func(l []api.BlPart) { l[1].Weight = span(100001, 5) }, 1, api.ErrRange}, // before Lo is above Hi
		{func(l []api.BlPart) { l[1].Weight = span(5, -1) }, 1, api.ErrRange},
		{func(l []api.BlPart) { l[3].Weight = span(5, 4) }, 3, api.ErrArg},
		{func(l []api.BlPart) { l[0].Weight, l[1].Name = span(5, 4), "" }, 0, api.ErrArg}, // the first part with an error
		{func(l []api.BlPart) { l[2].Weight, l[1].Weight = span(-1, 4), span(5, 4) }, 1, api.ErrArg},
	} {
		h := sampleH()
		c.change(h.Parts)
		part := 2
		if c.e == api.OK {
			part = 0
		}
		checks(t, i, h, part, c.at, c.e)
	}
	for _, n := range far() {
		checks(t, n, changed(func(h *api.BlHull) { h.Parts[2].Weight.Lo = n }), 2, 2, api.ErrRange)
		checks(t, n, changed(func(h *api.BlHull) { h.Parts[3].Weight.Hi = n }), 2, 3, api.ErrRange)
	}
}

// TestCheckJoints is P7.1: the first joint with an error.
func TestCheckJoints(t *testing.T) {
	for i, c := range []struct {
		joints [][2]int
		at     int
		e      api.Errno
	}{
		{joints(), 0, api.OK},
		{joints([2]int{0, 3}, [2]int{0, 1}, [2]int{2, 3}), 0, api.OK},
		{joints([2]int{-1, 1}), 0, api.ErrNone},
		{joints([2]int{0, 1}, [2]int{0, 4}), 1, api.ErrNone},
		{joints([2]int{4, 1}), 0, api.ErrNone}, // before the first one is not lower
		{joints([2]int{4, 4}), 0, api.ErrNone},
		{joints([2]int{2, -1}), 0, api.ErrNone},
		{joints([2]int{0, 1}, [2]int{2, 2}), 1, api.ErrArg},
		{joints([2]int{0, 1}, [2]int{3, 2}), 1, api.ErrArg},
		{joints([2]int{0, 1}, [2]int{1, 0}), 1, api.ErrArg},
		{joints([2]int{0, 1}, [2]int{0, 1}), 1, api.ErrTwice},
		{joints([2]int{0, 1}, [2]int{1, 2}, [2]int{2, 3}, [2]int{0, 1}), 3, api.ErrTwice},
		{joints([2]int{0, 1}, [2]int{1, 0}, [2]int{0, 9}), 1, api.ErrArg}, // the first joint with an error
		{joints([2]int{0, 1}, [2]int{0, 1}, [2]int{1, 0}), 1, api.ErrTwice},
	} {
		h := sampleH()
		h.Joints = c.joints
		part := 3
		if c.e == api.OK {
			part = 0
		}
		checks(t, i, h, part, c.at, c.e)
	}
	for _, n := range far() {
		checks(t, n, jointed(sampleH(), [2]int{0, 1}, [2]int{n, 3}), 3, 1, api.ErrNone)
		checks(t, n, jointed(sampleH(), [2]int{0, 1}, [2]int{0, n}), 3, 1, api.ErrNone)
	}
	h := known(make([]int, 8)...)
	for i := 2; len(h.Joints) < api.MaxBlJoints; i++ {
		h.Joints = append(h.Joints, [2]int{0, i})
	}
	checks(t, "12 joints", h, 0, 0, api.OK)
	h.Joints = append(h.Joints, [2]int{1, 7})
	checks(t, "13 joints", h, 1, 0, api.ErrLong)
}

// TestCheckOrder is P7.1 and R1: of the errors of several parts that of the first one is returned.
func TestCheckOrder(t *testing.T) {
	h := sampleH()
	checks(t, "no error", h, 0, 0, api.OK)
	h.Joints[2] = [2]int{0, 1}
	checks(t, "a joint", h, 3, 2, api.ErrTwice)
	h.Joints[1] = [2]int{7, 1}
	checks(t, "a joint before", h, 3, 1, api.ErrNone)
	h.Parts[3].Weight = span(2, 1)
	checks(t, "a part", h, 2, 3, api.ErrArg)
	h.Parts[1].Name = "a"
	checks(t, "a part before", h, 2, 1, api.ErrTwice)
	h.Sand = span(2, 1)
	checks(t, "the sand", h, 1, 0, api.ErrArg)
	h.Winch = 0
	checks(t, "the winch", h, 1, 0, api.ErrRange)
	h.Joints = make([][2]int, 13)
	checks(t, "the joints", h, 1, 0, api.ErrLong)
	checks(t, "nothing", api.BlHull{}, 1, 0, api.ErrLong)
}

// TestWeighingErrors is the error of the weighings, which all functions but Check return behind that of Check and before all others.
func TestWeighingErrors(t *testing.T) {
	w := weighed
	for i, c := range []struct {
		l []api.BlWeighed
		e api.Errno
	}{
		{make([]api.BlWeighed, 7), api.ErrLong},
		{weighings(w(-1, 2, 1), w(1, 100, 120), w(1, 100, 120), w(1, 100, 120), w(1, 100, 120), w(1, 100, 120), w(1, 100, 120)), api.ErrLong},
		{make([]api.BlWeighed, 100000), api.ErrLong},
		{make([]api.BlWeighed, 6), api.ErrNone},
		{weighings(w(0, 0, 0)), api.ErrNone},
		{weighings(w(-1, 0, 0)), api.ErrNone},
		{weighings(w(-16, 0, 0)), api.ErrNone},
		{weighings(w(16, 0, 1000)), api.ErrNone},
		{weighings(w(17, 0, 1000)), api.ErrNone},
		{weighings(w(1<<16+1, 0, 1000)), api.ErrNone},
		{weighings(w(12, 350, 360), w(0, 5, 4)), api.ErrNone},
		{weighings(w(5, 0, 1000)), api.ErrForm},  // a and c have no joint
		{weighings(w(11, 0, 1000)), api.ErrForm}, // d has none with a and b
		{weighings(w(9, -1, 1000)), api.ErrForm}, // before Shown
		{weighings(w(6, 0, 1000), w(3, 0, 1000)), api.ErrForm},
		{weighings(w(6, 0, 1000), w(12, -1, 1000)), api.ErrForm},
		{weighings(w(3, 0, 1000), w(12, 0, 1000), w(6, 0, 1000)), api.ErrForm},
		{weighings(w(1, 0, 1000), w(6, 0, 1000), w(7, 0, 1000), w(12, 0, 1000)), api.ErrForm},
		{weighings(w(3, -1, 1000)), api.ErrRange},
		{weighings(w(3, 0, 1000001)), api.ErrRange},
		{weighings(w(3, 1000001, 0)), api.ErrRange}, // before Lo is above Hi
		{weighings(w(3, 5, -1)), api.ErrRange},
		{weighings(w(3, 321, 320)), api.ErrArg},
		{weighings(w(3, 1000000, 0)), api.ErrArg},
		{weighings(w(3, 5, 4), w(0, 5, 4)), api.ErrArg}, // the first weighing with an error
		{weighings(w(3, 0, 1000), w(3, -1, 4), w(6, 0, 1000)), api.ErrRange},
		{weighings(w(3, 0, 1000), w(6, 0, 1000), w(0, 0, 0)), api.ErrForm},
		{weighings(w(3, 0, 0), w(12, 5, 4)), api.ErrArg}, // before no truth agrees
		{weighings(w(1, 121, 1000)), api.ErrDown},
		{weighings(w(1, 0, 99)), api.ErrDown},
		{weighings(w(15, 731, 1000000)), api.ErrDown},
		{weighings(w(15, 0, 649)), api.ErrDown},
		{weighings(w(3, 341, 400)), api.ErrDown},
		{weighings(w(3, 1000000, 1000000)), api.ErrDown},
		{weighings(w(3, 300, 320), w(3, 321, 340)), api.ErrDown}, // one of both at a time agrees
		{weighings(w(3, 330, 340), w(1, 100, 109)), api.ErrDown},
		{weighings(w(7, 0, 360), w(3, 311, 340)), api.ErrDown},
		{weighings(w(7, 390, 400), w(3, 300, 329)), api.ErrDown},
		{weighings(w(15, 700, 730), w(3, 300, 310), w(12, 350, 389)), api.ErrDown},
		{weighings(w(12, 350, 389), w(3, 300, 310), w(15, 700, 730)), api.ErrDown},
	} {
		failsWith(t, i, sampleH(), c.l, c.e)
	}
	for _, n := range far() {
		failsWith(t, n, sampleH(), weighings(w(3, 300, 340), w(n, 0, 1000)), api.ErrNone)
		failsWith(t, n, sampleH(), weighings(w(3, n, 340)), api.ErrRange)
		failsWith(t, n, sampleH(), weighings(w(3, 300, n)), api.ErrRange)
	}
}

// TestGoodWeighings is what is no error of weighings: sets of parts that are in one another, the same, or that have none in common, and spans at their limits.
func TestGoodWeighings(t *testing.T) {
	w := weighed
	for i, l := range [][]api.BlWeighed{
		nil,
		{},
		{w(15, 0, 1000000)},
		{w(1, 100, 100), w(2, 220, 220), w(4, 0, 50), w(8, 330, 1000000)},
		{w(3, 300, 340), w(12, 350, 390)},
		{w(6, 0, 1000), w(7, 0, 1000), w(15, 0, 1000)},
		{w(15, 0, 1000), w(7, 0, 1000), w(6, 0, 1000)},
		{w(3, 300, 340), w(3, 300, 340)},
		{w(3, 0, 300), w(3, 300, 1000)},
		{w(15, 0, 650), w(1, 0, 100), w(15, 650, 1000), w(12, 350, 350), w(8, 300, 400), w(12, 350, 350)},
	} {
		if _, e := block.Weights(sampleH(), l); e != api.OK {
			t.Errorf("%d: the error is %d", i, e)
		}
	}
	heavy := known(100000, 100000, 100000, 100000, 100000, 100000, 100000, 100000)
	weightsAre(t, "all", heavy, weighings(w(255, 800000, 1000000)), spans(span(100000, 100000), span(100000, 100000), span(100000, 100000), span(100000, 100000), span(100000, 100000), span(100000, 100000), span(100000, 100000), span(100000, 100000)), api.OK)
	failsWith(t, "all", heavy, weighings(w(255, 800001, 1000000)), api.ErrDown)
}

// TestBlockErrors is the error of a block, and of a number of blocks, behind those of the weighings.
func TestBlockErrors(t *testing.T) {
	h := sampleH()
	for _, l := range [][]api.BlWeighed{nil, sampleV()} {
		for _, n := range append(far(), -16, 0, 16, 17, 31, 1<<16+1) {
			pullIs(t, "no set", h, l, n, span(0, 0), api.ErrNone)
			heaviestIs(t, "no set", h, l, n, nil, api.ErrNone)
		}
		for n := 1; n < 16; n++ {
			e := api.OK
			if n == 5 || n == 9 || n == 10 || n == 11 || n == 13 {
				e = api.ErrForm
			}
			if _, f := block.Pull(h, l, n); f != e {
				t.Errorf("Pull of %d has the error %d; want %d", n, f, e)
			}
			if _, f := block.Heaviest(h, l, n); f != e {
				t.Errorf("Heaviest of %d has the error %d; want %d", n, f, e)
			}
		}
		for _, n := range append(far(), 0, 9) {
			winchIs(t, "blocks", h, l, n, 0, api.ErrRange)
			sandIs(t, "blocks", h, l, n, 0, api.ErrRange)
		}
	}
	winchIs(t, "the most blocks", h, nil, 8, 198, api.OK)
	// The number of blocks comes before that there is no cut.
	apart := jointed(sampleH())
	winchIs(t, "apart", apart, nil, 0, 0, api.ErrRange)
	winchIs(t, "apart", apart, nil, 1, 0, api.ErrDown)
	sandIs(t, "apart", apart, nil, 9, 0, api.ErrRange)
	sandIs(t, "apart", apart, nil, 3, 0, api.ErrDown)
}
