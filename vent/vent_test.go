package vent_test

import (
	"slices"
	"testing"

	"orlop/api"
	"orlop/vent"
)

// TestExamples is the table of the chapter, and the example of DOC.md.
func TestExamples(t *testing.T) {
	n, w := netN(), netW()
	joinedIs(t, "3 and 5", n, ints(3, 5), ints(0, 0, 0, 3, 3), api.OK)
	joinedIs(t, "none", n, nil, ints(0, 0, 0, 0, 0), api.OK)
	wayIs(t, "none", n, nil, ints(4), ints(2, 5), api.OK)
	wayIs(t, "2", n, ints(2), ints(4), ints(0, 1, 5), api.OK)
	wayIs(t, "0 and 2", n, ints(0, 2), ints(4), nil, api.ErrNone)
	blanksAre(t, "d and e", n, ints(3, 4), ints(0, 2), api.OK)
	blanksAre(t, "b", n, ints(1), ints(0, 1), api.OK)
	blanksAre(t, "b in W", w, ints(1), nil, api.ErrDown)
	l := steps(on(3), on(4), off(3))
	afterIs(t, "3 and 5", n, ints(3, 5), l, ints(3, 4), ints(4), api.OK)
	afterIs(t, "5", n, ints(5), l, ints(4), ints(4), api.OK)
	fewestIs(t, "d and e", n, ints(3, 5), ints(3, 4), 2, api.OK)
	fewestIs(t, "d, 0 and 2", n, ints(0, 2), ints(3), 3, api.OK)
	fewestIs(t, "d, none", n, nil, ints(3), 0, api.ErrDown)
	planIs(t, "d", n, ints(0, 2), ints(3), 3, steps(on(1), on(2), off(1), on(3), on(4), off(2), off(3), off(4)), api.OK)
	waysAre(t, "d and e", n, ints(3, 4), 2, api.OK)
	waysAre(t, "b", n, ints(1), 2, api.OK)
	waysAre(t, "b in W", w, ints(1), 0, api.ErrDown)
}

// TestJoined is P4.2: nets with and without pipes, blanks and Kept tanks, and several pipes that join the same tanks.
func TestJoined(t *testing.T) {
	full := netOf("-------", pipe(6, 5), pipe(5, 4), pipe(4, 3), pipe(3, 2), pipe(2, 1), pipe(1, 0), pipe(6, 5), pipe(5, 4), pipe(4, 3), pipe(3, 2), pipe(2, 1), pipe(1, 0))
	for i, c := range []struct {
		n      api.VnNet
		blanks []int
		want   []int
	}{
		{netOf("-"), nil, ints(0)},
		{netOf("k"), nil, ints(0)},
		{netOf("-------"), nil, ints(0, 1, 2, 3, 4, 5, 6)},
		{netOf("kkkkkkk"), nil, ints(0, 1, 2, 3, 4, 5, 6)},
		{netOf("--", pipe(1, 0)), nil, ints(0, 0)},
		{netOf("--", pipe(1, 0)), ints(0), ints(0, 1)},
		{netOf("--", pipe(1, 0), pipe(0, 1)), ints(0), ints(0, 0)},
		{netOf("--", pipe(1, 0), pipe(0, 1)), ints(1), ints(0, 0)},
		{netOf("--", pipe(1, 0), pipe(0, 1)), ints(0, 1), ints(0, 1)},
		{netOf("kk", pipe(1, 0), welded(0, 1)), ints(0), ints(0, 0)},
		{netOf("-k-", pipe(0, 1), pipe(2, 1)), nil, ints(0, 0, 0)}, // through a tank that keeps its gas
		{netOf("----", pipe(3, 1), pipe(2, 0)), nil, ints(0, 1, 0, 1)},
		{netOf("-------", pipe(6, 3), pipe(5, 3), pipe(5, 2), pipe(4, 1)), nil, ints(0, 1, 2, 2, 1, 2, 2)},
		{full, nil, ints(0, 0, 0, 0, 0, 0, 0)},
		{full, ints(0, 1, 2, 3, 4, 5), ints(0, 0, 0, 0, 0, 0, 0)},
		{full, ints(2, 8), ints(0, 0, 0, 0, 4, 4, 4)},
		{full, ints(0, 5, 6, 11), ints(0, 1, 1, 1, 1, 1, 6)},
		{full, ints(0, 1, 2, 3, 4, 5, 6, 7, 8, 9, 10, 11), ints(0, 1, 2, 3, 4, 5, 6)},
	} {
		joinedIs(t, i, c.n, c.blanks, c.want, api.OK)
	}
}

// TestAfter is P4.2: how gas spreads.
func TestAfter(t *testing.T) {
	chain := netOf("k----", pipe(1, 0), pipe(1, 2), pipe(3, 2), pipe(3, 4))
	free := netOf("-----", pipe(0, 1), pipe(1, 2), pipe(2, 3), pipe(3, 4))
	for i, c := range []struct {
		n             api.VnNet
		blanks        []int
		steps         []api.VnStep
		free, blowers []int
	}{
		{netOf("-"), nil, nil, nil, nil}, // at first no tank is free, though no gas comes into it
		{netOf("-"), nil, steps(on(0)), ints(0), ints(0)},
		{netOf("-"), nil, steps(on(0), off(0)), ints(0), nil},
		{netOf("-"), nil, steps(on(0), off(0), on(0)), ints(0), ints(0)},
		{netOf("--"), nil, steps(on(1)), ints(1), ints(1)},
		{netOf("--"), nil, steps(on(1), off(1)), ints(1), nil},
		{netOf("k-"), nil, steps(on(1), off(1)), ints(1), nil},
		{netOf("k-", pipe(0, 1)), nil, steps(on(1)), ints(1), ints(1)},
		{netOf("k-", pipe(0, 1)), nil, steps(on(1), off(1)), nil, nil},
		{netOf("k-", pipe(0, 1)), ints(0), steps(on(1), off(1)), ints(1), nil},
		{netOf("k-", pipe(0, 1), welded(0, 1)), ints(0), steps(on(1), off(1)), nil, nil},
		{netOf("--", pipe(0, 1)), nil, steps(on(1), off(1)), nil, nil},
		{netOf("--", pipe(1, 0)), nil, steps(on(1), on(0), off(1)), ints(0, 1), ints(0)},
		{netOf("--", pipe(1, 0)), nil, steps(on(1), on(0), off(1), off(0)), ints(0, 1), nil},
		{chain, nil, steps(on(1), on(2), on(3)), ints(1, 2, 3), ints(1, 2, 3)},
		{chain, nil, steps(on(1), on(2), on(3), off(2)), ints(1, 2, 3), ints(1, 3)},
		{chain, nil, steps(on(1), on(2), on(3), off(3)), ints(1, 2), ints(1, 2)},
		{chain, nil, steps(on(1), on(2), on(3), on(4), off(2), off(3), off(4)), ints(1, 2, 3, 4), ints(1)},
		{chain, nil, steps(on(1), on(2), on(3), on(4), off(2), off(3), off(4), off(1)), nil, nil}, // all of them in one step
		{chain, ints(1), steps(on(1), on(2), on(3), on(4), off(2), off(3), off(4), off(1)), ints(2, 3, 4), nil},
		{chain, ints(2), steps(on(1), on(2), on(3), on(4), off(2), off(3), off(4), off(1)), ints(3, 4), nil},
		{chain, ints(0, 1, 2, 3), steps(on(4), on(2), off(4), off(2), on(3)), ints(2, 3, 4), ints(3)},
		{free, nil, steps(on(2), on(4), on(3)), ints(2, 3, 4), ints(2, 3, 4)},
		{free, nil, steps(on(2), on(4), on(3), off(4)), ints(2, 3, 4), ints(2, 3)},
		{free, nil, steps(on(2), on(4), on(3), off(4), off(3)), ints(2, 3, 4), ints(2)},
		{free, nil, steps(on(2), on(4), on(3), off(4), off(3), off(2)), nil, nil},
		{free, nil, steps(on(2), on(4), on(3), off(4), off(3), on(0), off(2)), ints(0), ints(0)},
		{free, nil, steps(on(2), on(4), on(3), off(4), off(3), on(0), on(1), off(2)), ints(0, 1, 2, 3, 4), ints(0, 1)},
	} {
		afterIs(t, i, c.n, c.blanks, c.steps, c.free, c.blowers, api.OK)
	}
}

// TestWay is P4.3: of several ways the one with the fewest pipes, of which the first pipe that differs counts.
func TestWay(t *testing.T) {
	for i, c := range []struct {
		n              api.VnNet
		blanks, wanted []int
		want           []int
	}{
		{netOf("-"), nil, ints(0), nil}, // no Kept tank
		{netOf("k-"), nil, ints(1), nil},
		{netOf("k-", pipe(0, 1)), nil, ints(1), ints(0)},
		{netOf("k-", pipe(1, 0)), nil, ints(1), ints(0)},
		{netOf("-k", welded(1, 0)), nil, ints(0), ints(0)},
		{netOf("k-", pipe(1, 0)), ints(0), ints(1), nil},
		{netOf("k-", pipe(1, 0), pipe(0, 1)), nil, ints(1), ints(0)},
		{netOf("k-", pipe(1, 0), pipe(0, 1)), ints(0), ints(1), ints(1)},
		{netOf("---", pipe(0, 1), pipe(1, 2)), nil, ints(0, 1, 2), nil}, // joined, but to no Kept tank
		{netOf("k--", pipe(0, 1), pipe(1, 2)), nil, ints(2), ints(0, 1)},
		{netOf("k--", pipe(2, 1), pipe(1, 0)), nil, ints(2), ints(1, 0)},
		{netOf("k--", pipe(0, 1), pipe(1, 2)), nil, ints(1, 2), ints(0)},
		{netOf("kk-", pipe(0, 1), pipe(1, 2)), nil, ints(2), ints(1)},              // not through a Kept tank
		{netOf("kk-", pipe(0, 1), pipe(1, 2), pipe(0, 2)), nil, ints(2), ints(1)},  // from any Kept tank
		{netOf("kk-", pipe(0, 1), pipe(0, 2), pipe(1, 2)), nil, ints(2), ints(1)},  // from any Kept tank
		{netOf("k-k-", pipe(0, 1), pipe(1, 2), pipe(2, 3)), ints(2), ints(3), nil}, // all go through a Kept tank that is cut off
		{netOf("k---", pipe(0, 1), pipe(1, 3), pipe(0, 2), pipe(2, 3)), nil, ints(3), ints(0, 1)},
		{netOf("k---", pipe(0, 1), pipe(2, 3), pipe(0, 2), pipe(1, 3)), nil, ints(3), ints(0, 3)},
		{netOf("k---", pipe(1, 3), pipe(2, 3), pipe(0, 2), pipe(0, 1)), nil, ints(3), ints(2, 1)},
		{netOf("k---", pipe(0, 1), pipe(1, 3), pipe(0, 1), pipe(1, 3)), ints(0), ints(3), ints(2, 1)},
		{netOf("k---", pipe(0, 1), pipe(1, 2), pipe(2, 3), pipe(0, 3)), nil, ints(3), ints(3)}, // fewer pipes before lesser ones
		{netOf("k---", pipe(0, 1), pipe(0, 2), pipe(2, 3)), nil, ints(1, 3), ints(0)},
		{netOf("k-k--", pipe(0, 1), pipe(1, 3), pipe(2, 4), pipe(4, 3)), nil, ints(3), ints(0, 1)},
		{netOf("k-k--", pipe(2, 4), pipe(1, 3), pipe(0, 1), pipe(4, 3)), nil, ints(3), ints(0, 3)},
		{netOf("k------", pipe(0, 1), pipe(1, 2), pipe(2, 3), pipe(3, 4), pipe(4, 5), pipe(5, 6), pipe(1, 0), pipe(2, 1), pipe(3, 2), pipe(4, 3), pipe(5, 4), pipe(6, 5)), ints(0, 8), ints(6), ints(6, 1, 2, 3, 4, 5)},
	} {
		e := api.OK
		if c.want == nil {
			e = api.ErrNone
		}
		wayIs(t, i, c.n, c.blanks, c.wanted, c.want, e)
	}
}

// TestBlanks is P4.4 and P4.5: the first of the fewest blanks, and as many ways.
func TestBlanks(t *testing.T) {
	double := netOf("k------", pipe(0, 1), pipe(0, 1), pipe(0, 2), pipe(0, 2), pipe(0, 3), pipe(0, 3), pipe(4, 1), pipe(4, 1), pipe(4, 2), pipe(4, 2), pipe(4, 3), pipe(4, 3))
	fan := netOf("k------", pipe(0, 1), pipe(0, 2), pipe(0, 3), pipe(0, 4), pipe(0, 5), pipe(0, 6), pipe(1, 6), pipe(2, 6), pipe(3, 6), pipe(4, 6), pipe(5, 6), welded(1, 5))
	twelve := netOf("k-")
	for range api.MaxVnPipes {
		twelve.Pipes = append(twelve.Pipes, pipe(0, 1))
	}
	for i, c := range []struct {
		n      api.VnNet
		wanted []int
		want   []int
		down   bool
	}{
		{netOf("-"), ints(0), nil, false}, // none are needed
		{netOf("k-"), ints(1), nil, false},
		{netOf("---", pipe(0, 1), welded(1, 2)), ints(0, 1, 2), nil, false},
		{netOf("k---", pipe(0, 1), welded(2, 3)), ints(2), nil, false},
		{netOf("k-", pipe(0, 1)), ints(1), ints(0), false},
		{netOf("k-", welded(0, 1)), ints(1), nil, true},
		{netOf("k-", pipe(0, 1), welded(0, 1)), ints(1), nil, true},
		{netOf("k-", pipe(0, 1), pipe(1, 0)), ints(1), ints(0, 1), false},
		{netOf("k--", pipe(0, 1), pipe(1, 2)), ints(2), ints(0), false},
		{netOf("k--", welded(0, 1), pipe(1, 2)), ints(2), ints(1), false},
		{netOf("k--", pipe(0, 1), welded(1, 2)), ints(2), ints(0), false},
		{netOf("k--", welded(0, 1), welded(1, 2)), ints(2), nil, true},
		{netOf("k--", welded(0, 1), pipe(1, 2)), ints(1, 2), nil, true}, // one of them cannot be
		{netOf("k--", pipe(1, 2), pipe(0, 1)), ints(2), ints(0), false},
		{netOf("k--", pipe(0, 1), pipe(1, 2)), ints(1, 2), ints(0), false},
		{netOf("k-k", pipe(0, 1), pipe(1, 2)), ints(1), ints(0, 1), false},
		{netOf("kk-", pipe(0, 1), pipe(1, 2)), ints(2), ints(1), false},
		{netOf("k---", pipe(0, 1), pipe(0, 1), pipe(1, 2), pipe(2, 3), pipe(2, 3)), ints(3), ints(2), false}, // fewer before lesser ones
		{netOf("k---", pipe(0, 1), pipe(0, 1), welded(1, 2), pipe(2, 3), pipe(2, 3)), ints(3), ints(0, 1), false},
		{netOf("k---", welded(0, 1), pipe(0, 1), welded(1, 2), pipe(2, 3), pipe(2, 3)), ints(3), ints(3, 4), false},
		{netOf("k----", pipe(0, 1), pipe(0, 2), pipe(1, 3), pipe(2, 3), pipe(1, 4), pipe(2, 4)), ints(3, 4), ints(0, 1), false},
		// An augmenting way has to turn back the first one.
		{netOf("k----", pipe(0, 1), pipe(1, 2), pipe(2, 4), pipe(0, 3), pipe(3, 2), pipe(1, 4)), ints(4), ints(0, 3), false},
		{netW(), ints(3), ints(1, 2), false}, // not 0 and 2: the pipe 0 is Welded
		{netW(), ints(3, 4), ints(1, 2), false},
		{netW(), ints(1, 4), nil, true},
		{double, ints(4), ints(0, 1, 2, 3, 4, 5), false},
		{double, ints(1, 2, 3), ints(0, 1, 2, 3, 4, 5), false},
		{double, ints(3), ints(4, 5, 10, 11), false},
		{double, ints(5, 6), nil, false}, // no pipe joins them
		{fan, ints(6), ints(0, 1, 2, 3, 4, 5), false},
		{fan, ints(5), ints(0, 4, 6, 10), false},
		{twelve, ints(1), ints(0, 1, 2, 3, 4, 5, 6, 7, 8, 9, 10, 11), false},
	} {
		e := api.OK
		if c.down {
			e = api.ErrDown
		}
		blanksAre(t, i, c.n, c.wanted, c.want, e)
		waysAre(t, i, c.n, c.wanted, len(c.want), e)
	}
}

// TestProves is P4.5: which ways are accepted.
func TestProves(t *testing.T) {
	n, w := netN(), netW()
	two := netOf("kk---", pipe(0, 1), pipe(0, 2), pipe(1, 2), welded(2, 3), pipe(3, 4), pipe(4, 2))
	for i, c := range []struct {
		n      api.VnNet
		wanted []int
		ways   [][]int
		want   bool
	}{
		{n, ints(4), nil, true}, // none at all
		{n, ints(4), [][]int{}, true},
		{n, ints(4), [][]int{{}}, false}, // the tanks of a way of gas are two at least
		{n, ints(4), [][]int{nil, {2, 5}}, false},
		{n, ints(4), [][]int{{2, 5}}, true},
		{n, ints(4), [][]int{{0, 1, 5}}, true},
		{n, ints(4), [][]int{{0, 1, 3, 4}}, true},
		{n, ints(4), [][]int{{2, 5}, {0, 1, 3, 4}}, true},
		{n, ints(4), [][]int{{0, 1, 3, 4}, {2, 5}}, true},
		{n, ints(4), [][]int{{2, 5}, {2, 5}}, false}, // the same one twice
		{n, ints(4), [][]int{{2, 5}, {0, 1, 5}}, false},
		{n, ints(4), [][]int{{2, 3, 4}, {0, 1, 3, 4}}, false},
		{n, ints(4), [][]int{{2}}, false}, // it ends too early
		{n, ints(4), [][]int{{5}}, false}, // from no Kept tank
		{n, ints(4), [][]int{{5, 2}}, false},
		{n, ints(4), [][]int{{2, 4}}, false}, // no pipe of c
		{n, ints(4), [][]int{{2, 5, 4}}, false},
		{n, ints(4), [][]int{{2, 3, 4, 5}}, false},
		{n, ints(4), [][]int{{0, 1, 2, 5}}, false},    // back into the Kept tank
		{n, ints(4), [][]int{{0, 0, 2, 5}}, false},    // there and back
		{n, ints(4), [][]int{{2, 3, 3, 5}}, false},    // there and back
		{n, ints(4), [][]int{{2, 3, 4, 5, 3}}, false}, // through a wanted tank
		{n, ints(3, 4), [][]int{{2, 3, 4}}, false},    // through a wanted tank
		{n, ints(3, 4), [][]int{{2, 3}}, true},
		{n, ints(3, 4), [][]int{{2, 3}, {0, 1, 5}}, true},
		{n, ints(3, 4), [][]int{{2, 3}, {0, 1, 3}}, false},
		{n, ints(1), [][]int{{0}, {2, 1}}, true},
		{n, ints(1), [][]int{{2, 3, 4, 5, 1}}, false}, // c is reached twice
		{n, ints(1), [][]int{{0}, {2, 1}, {0}}, false},
		{w, ints(1), [][]int{{0}, {0}, {0}, {2, 1}}, true}, // a Welded pipe can be in all of them
		{w, ints(1), [][]int{{0}, {2, 1}, {2, 1}}, false},
		{w, ints(4), [][]int{{0, 1, 5}, {2, 3, 4}}, true},
		{w, ints(4), [][]int{{0, 1, 5}, {0, 1, 3, 4}}, false}, // the pipe 1 is not Welded
		{two, ints(4), [][]int{{1, 3, 4}, {2, 5}}, true},
		{two, ints(4), [][]int{{1, 5}, {2, 3, 4}}, true},
		{two, ints(3), [][]int{{1, 3}, {2, 3}}, true},
		{two, ints(3), [][]int{{1, 3}, {2, 3}, {1, 5, 4}}, false},
		{two, ints(3), [][]int{{0, 2, 3}}, false}, // through a Kept tank
		{two, ints(3), [][]int{{1, 2}}, false},    // from a Kept tank to a Kept one
		{two, ints(3), [][]int{{0}}, false},
		{two, ints(2), [][]int{{1}, {2}}, true},
		{two, ints(2), [][]int{{1}, {2}, {1}}, false},
	} {
		provesIs(t, i, c.n, c.wanted, c.ways, c.want, api.OK)
	}
	for _, i := range far() {
		provesIs(t, i, n, ints(4), [][]int{{i}}, false, api.OK)
		provesIs(t, i, n, ints(4), [][]int{{2, i}}, false, api.OK)
		provesIs(t, i, n, ints(4), [][]int{{2, 5}, {i, 5}}, false, api.OK)
		provesIs(t, i, n, ints(4), [][]int{{2, 5, i}}, false, api.OK)
		provesIs(t, i, n, ints(4), [][]int{{2, i, 5}}, false, api.OK)
	}
	provesIs(t, "a long way", n, ints(4), [][]int{make([]int, 100000)}, false, api.OK)
	provesIs(t, "many ways", w, ints(1), slices.Repeat([][]int{{0}}, 100000), true, api.OK)
	provesIs(t, "many ways, and one", w, ints(1), append(slices.Repeat([][]int{{0}}, 100000), nil), false, api.OK)
}

// TestPlan is P4.6: the first of the shortest steps, and none with too few blowers.
func TestPlan(t *testing.T) {
	chain := netOf("k----", pipe(0, 1), pipe(1, 2), pipe(2, 3), pipe(3, 4))
	for i, c := range []struct {
		n              api.VnNet
		blanks, wanted []int
		blowers        int
		want           []api.VnStep
	}{
		{netOf("-"), nil, ints(0), 1, steps(on(0), off(0))},
		{netOf("-"), nil, ints(0), 7, steps(on(0), off(0))},
		{netOf("k-"), nil, ints(1), 1, steps(on(1), off(1))},
		{netOf("k-", pipe(0, 1)), nil, ints(1), 7, nil},
		{netOf("k-", pipe(0, 1)), ints(0), ints(1), 1, steps(on(1), off(1))},
		{netOf("---"), nil, ints(0, 2), 1, steps(on(0), off(0), on(2), off(2))},
		{netOf("---"), nil, ints(0, 2), 2, steps(on(0), off(0), on(2), off(2))}, // off 0 comes before on 2
		{netOf("--", pipe(0, 1)), nil, ints(1), 1, nil},
		{netOf("--", pipe(0, 1)), nil, ints(1), 2, steps(on(0), on(1), off(0), off(1))},
		{netOf("---", pipe(0, 1)), nil, ints(1), 3, steps(on(0), on(1), off(0), off(1))}, // the third tank is not wanted
		{netOf("---", pipe(1, 2)), nil, ints(0, 1), 2, steps(on(0), off(0), on(1), on(2), off(1), off(2))},
		{netOf("---", pipe(1, 2)), nil, ints(0, 1), 3, steps(on(0), off(0), on(1), on(2), off(1), off(2))},
		{netOf("---", pipe(0, 1), pipe(1, 2)), nil, ints(0), 1, nil},
		{netOf("---", pipe(0, 1), pipe(1, 2)), nil, ints(0), 2, steps(on(0), on(1), off(0), on(2), off(1), off(2))},
		{netOf("---", pipe(0, 2), pipe(2, 1)), nil, ints(0), 2, steps(on(0), on(2), off(0), on(1), off(1), off(2))},
		{chain, ints(0), ints(4), 1, nil},
		{chain, ints(0), ints(4), 2, steps(on(1), on(2), off(1), on(3), off(2), on(4), off(3), off(4))},
		{chain, ints(1), ints(4), 2, steps(on(2), on(3), off(2), on(4), off(3), off(4))},
		{chain, ints(2), ints(4), 2, steps(on(3), on(4), off(3), off(4))},
		{chain, ints(3), ints(4), 1, steps(on(4), off(4))},
		{chain, ints(3), ints(3, 4), 7, nil},
		{netN(), ints(0, 2), ints(3), 2, nil},
		{netN(), ints(0, 2), ints(3), 7, steps(on(1), on(2), off(1), on(3), on(4), off(2), off(3), off(4))},
		{netN(), ints(3, 5), ints(3), 1, nil},
		{netN(), ints(3, 5), ints(3), 2, steps(on(3), on(4), off(3), off(4))},
		{netN(), ints(3, 5), ints(3, 4), 2, steps(on(3), on(4), off(3), off(4))},
		{netN(), ints(3, 4), ints(4), 7, nil},
	} {
		e := api.OK
		if c.want == nil {
			e = api.ErrDown
		}
		planIs(t, i, c.n, c.blanks, c.wanted, c.blowers, c.want, e)
	}
}

// TestFewest is P4.6: nets for which fewer blowers do not do.
func TestFewest(t *testing.T) {
	grid := netOf("------", pipe(0, 1), pipe(1, 2), pipe(3, 4), pipe(4, 5), pipe(0, 3), pipe(1, 4), pipe(2, 5))
	ring := netOf("-------", pipe(0, 1), pipe(1, 2), pipe(2, 3), pipe(3, 4), pipe(4, 5), pipe(5, 6), pipe(6, 0))
	spider := netOf("-------", pipe(0, 1), pipe(0, 2), pipe(0, 3), pipe(1, 4), pipe(2, 5), pipe(3, 6))
	for i, c := range []struct {
		n              api.VnNet
		blanks, wanted []int
		want           int
	}{
		{netOf("-"), nil, ints(0), 1},
		{netOf("-------"), nil, ints(0, 1, 2, 3, 4, 5, 6), 1},
		{complete(2), nil, ints(0), 2},
		{complete(3), nil, ints(0), 3},
		{complete(4), nil, ints(3), 4},
		{complete(5), nil, ints(2), 5},
		{complete(5), ints(0), ints(2), 4},
		{grid, nil, ints(5), 3},
		{ring, nil, ints(3), 3},
		{ring, ints(4), ints(3), 2},
		{ring, ints(2, 4), ints(3), 2},
		{ring, ints(2, 3), ints(3), 1},
		{spider, nil, ints(0), 3},
		{spider, ints(3), ints(0), 2}, // what is left is a chain with a tank beside it
		{spider, ints(0), ints(0), 2},
		{netN(), ints(3, 5), ints(3, 4), 2},
		{netN(), ints(0, 2), ints(1), 3},
		{netN(), ints(0, 1), ints(1), 1},
		{netN(), ints(0), ints(1), 0},
		{netN(), ints(2), ints(1), 0},
		{netW(), ints(1, 2), ints(1), 0},
		{netW(), ints(1, 2), ints(4), 3},
	} {
		e := api.OK
		if c.want == 0 {
			e = api.ErrDown
		}
		fewestIs(t, i, c.n, c.blanks, c.wanted, c.want, e)
		for blowers := 1; blowers <= api.MaxVnTanks; blowers++ {
			l, e := vent.Plan(c.n, c.blanks, c.wanted, blowers)
			if enough := c.want > 0 && blowers >= c.want; enough != (e == api.OK) || enough != (len(l) > 0) || !enough && e != api.ErrDown {
				t.Errorf("%d: Plan with %d blowers = %v, %d", i, blowers, l, e)
			}
		}
	}
}
