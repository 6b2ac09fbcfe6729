package cut_test

import (
	"slices"
	"testing"

	"orlop/api"
	"orlop/cut"
)

// TestExamples is the examples of the chapter.
func TestExamples(t *testing.T) {
	T, U, V := taskT(), taskU(), taskV()
	for _, task := range []api.CtTask{T, U, V} {
		checks(t, "an example", task, 0, 0, api.OK)
	}
	mayIs(t, "T", T, nil, ints(bow, mid), api.OK)
	mayIs(t, "T", T, ints(bow), ints(stern), api.OK)
	mayIs(t, "T", T, ints(bow, stern), ints(mid), api.OK)
	nextIs(t, "T", T, nil, ints(bow), api.OK)
	firstIs(t, "T", T, ints(bow, stern, mid), api.OK)
	firstIs(t, "U", U, nil, api.ErrDown)
	firstIs(t, "V", V, nil, api.ErrDown)
	badIs(t, "T", T, ints(bow, mid), 1, api.CtFalls, api.OK)
	badIs(t, "T", T, ints(mid, mid), 1, api.CtGone, api.OK)
	badIs(t, "T", T, ints(mid, bow), 1, api.CtFalls, api.OK)
	badIs(t, "T", T, ints(bow, stern, mid), -1, api.CtGood, api.OK)
	badIs(t, "U", U, ints(bow), 0, api.CtAbove, api.OK)
	badIs(t, "V", V, ints(bow, stern), 1, api.CtGas, api.OK)
	mostIs(t, "U", U, ints(mid), api.OK)
	mostIs(t, "V", V, ints(bow), api.OK)
	toIs(t, "T", T, stern, ints(bow, stern), api.OK)
	toIs(t, "U", U, stern, nil, api.ErrDown)
	proofIs(t, "U", U, ints(5, 7), api.OK)
	proofIs(t, "V", V, ints(5, 6, 7), api.OK)
}

// holding is a task with the parts a and b; each of three reasons why a cannot be cut applies, or does not.
func holding(above, gas, falls bool) api.CtTask {
	b := heavy(200, 10)
	if falls {
		b = heavy(201, 10)
	}
	t := tanked(taskOf(heavy(100, 5000), b), 0, 1)
	if above {
		t = stood(t, 1, 0)
	}
	if gas {
		t = tanked(t, 0, 1, 2)
	}
	return t
}

// TestReasons is P6.2: each of the reasons, and of several ones the first one.
func TestReasons(t *testing.T) {
	for i, c := range []struct {
		above, gas, falls bool
		why               int
	}{
		{false, false, false, api.CtGood},
		{false, false, true, api.CtFalls},
		{false, true, false, api.CtGas},
		{false, true, true, api.CtGas},
		{true, false, false, api.CtAbove},
		{true, false, true, api.CtAbove},
		{true, true, false, api.CtAbove},
		{true, true, true, api.CtAbove},
	} {
		task := holding(c.above, c.gas, c.falls)
		at, may := 0, ints(1)
		if c.why == api.CtGood {
			at, may = -1, ints(0, 1)
		}
		badIs(t, i, task, ints(0), at, c.why, api.OK)
		mayIs(t, i, task, nil, may, api.OK)
		// Behind b only the gas is left of the reasons.
		if c.gas {
			badIs(t, i, task, ints(1, 0), 1, api.CtGas, api.OK)
		} else {
			badIs(t, i, task, ints(1, 0), -1, api.CtGood, api.OK)
		}
		badIs(t, i, task, ints(1, 1, 0), 1, api.CtGone, api.OK)
	}
	// A part is gone also if it was not cut just before, and if nothing is left.
	badIs(t, "gone", easy(2), ints(1, 0, 1), 2, api.CtGone, api.OK)
	badIs(t, "gone", easy(1), ints(0, 0), 1, api.CtGone, api.OK)
}

// TestBad is P6.2: the first cut of an order that cannot be made.
func TestBad(t *testing.T) {
	chain := stood(stood(easy(4), 1, 0), 2, 1)
	for i, c := range []struct {
		task    api.CtTask
		order   []int
		at, why int
		e       api.Errno
	}{
		{taskT(), nil, -1, api.CtGood, api.OK},
		{taskT(), ints(), -1, api.CtGood, api.OK},
		{taskT(), ints(mid), -1, api.CtGood, api.OK},
		{taskT(), ints(bow, stern), -1, api.CtGood, api.OK},
		{taskT(), ints(stern), 0, api.CtFalls, api.OK},
		{taskT(), ints(stern, stern, mid), 0, api.CtFalls, api.OK},
		{taskT(), ints(bow, stern, mid, bow), 3, api.CtGone, api.OK},
		{taskT(), ints(bow, stern, bow, mid), 2, api.CtGone, api.OK},
		{taskT(), ints(bow, bow, stern, mid), 1, api.CtGone, api.OK},
		{taskT(), ints(bow, mid, bow), 1, api.CtFalls, api.OK},
		{taskT(), ints(3), 0, 0, api.ErrNone},
		{taskT(), ints(-1), 0, 0, api.ErrNone},
		{taskT(), ints(stern, stern, 3), 0, 0, api.ErrNone}, // before what cannot be cut
		{taskT(), ints(bow, stern, mid, -1), 0, 0, api.ErrNone},
		{chain, ints(2, 1, 0, 3), -1, api.CtGood, api.OK},
		{chain, ints(3, 2, 1, 0), -1, api.CtGood, api.OK},
		{chain, ints(0), 0, api.CtAbove, api.OK},
		{chain, ints(2, 0), 1, api.CtAbove, api.OK},
		{chain, ints(1), 0, api.CtAbove, api.OK},
		{chain, ints(3, 1), 1, api.CtAbove, api.OK},
		{tanked(easy(3), 1, 0), ints(1), 0, api.CtGas, api.OK}, // a tank that is Kept
		{tanked(easy(3), 1, 1), ints(1), -1, api.CtGood, api.OK},
		{tanked(easy(3), 1, 2), ints(0, 2, 1), 2, api.CtGas, api.OK}, // the last part that is left
		{tanked(easy(3), 1, 0, 1, 2), ints(1), 0, api.CtGas, api.OK},
		{tanked(easy(3), 1, 1, 2), ints(1), 0, api.CtGas, api.OK},
	} {
		badIs(t, i, c.task, c.order, c.at, c.why, c.e)
	}
	for _, n := range far() {
		badIs(t, n, taskT(), ints(n), 0, 0, api.ErrNone)
		badIs(t, n, taskT(), ints(stern, n), 0, 0, api.ErrNone)
	}
	badIs(t, "a long order", easy(7), make([]int, 100000), 1, api.CtGone, api.OK)
}

// TestFreeTanks is P6.2: the tanks that are free after the steps, not before, with a blower or without one.
func TestFreeTanks(t *testing.T) {
	for i, c := range []struct {
		blanks []int
		steps  int
		want   int
	}{
		{ints(3, 5), 4, api.CtGood},
		{ints(3, 5), 3, api.CtGood}, // a blower is on e
		{ints(3, 5), 2, api.CtGood},
		{ints(3, 5), 1, api.CtGas},
		{ints(3, 5), 0, api.CtGas},
		{ints(5), 4, api.CtGas}, // gas came back
		{ints(5), 3, api.CtGas},
		{ints(5), 2, api.CtGood},
		{nil, 4, api.CtGas},
		{ints(0, 2), 4, api.CtGas}, // c was never free
		{ints(0, 2, 3, 5), 4, api.CtGood},
	} {
		task := taskT()
		task.Blanks, task.Steps = c.blanks, task.Steps[:c.steps]
		at := -1
		if c.want != api.CtGood {
			at = 0
		}
		badIs(t, i, task, ints(mid), at, c.want, api.OK)
	}
}

// dipping is a task with the parts a and b, which fall from 34 to 51 centimetres of water, and c, which holds them.
func dipping() api.CtTask {
	known := func(at, weight, keel, lift int) api.StPart {
		return lies(at, span(weight, weight), keel, span(lift, lift))
	}
	return taskOf(known(0, 1000, 50, 20), known(150, 2100, 0, 3), heavy(150, 1000000))
}

// TestTide is P6.2: what is left stands at each height of the tide.
func TestTide(t *testing.T) {
	for i, c := range []struct {
		task   api.CtTask
		part   int
		lo, hi int
		want   int
	}{
		{dipping(), 2, 0, 33, api.CtGood},
		{dipping(), 2, 0, 34, api.CtFalls},
		{dipping(), 2, 34, 34, api.CtFalls},
		{dipping(), 2, 0, 100, api.CtFalls}, // it stands at both ends
		{dipping(), 2, 51, 100, api.CtFalls},
		{dipping(), 2, 52, 100, api.CtGood},
		// Mid and stern press just as much about Fore, up to 199.
		{taskT(), bow, 0, 199, api.CtGood},
		{taskT(), bow, 0, 200, api.CtFalls},
		{taskT(), bow, 0, 1000, api.CtFalls},
		{taskT(), mid, 0, 60, api.CtGood},
		{taskT(), mid, 1000, 1000, api.CtFalls},
	} {
		at := -1
		if c.want != api.CtGood {
			at = 0
		}
		badIs(t, i, flooded(c.task, c.lo, c.hi), ints(c.part), at, c.want, api.OK)
	}
	firstIs(t, "T up to 199", flooded(taskT(), 0, 199), ints(bow, stern, mid), api.OK)
	firstIs(t, "T up to 200", flooded(taskT(), 0, 200), nil, api.ErrDown)
	proofIs(t, "T up to 200", flooded(taskT(), 0, 200), ints(7), api.OK)
	mostIs(t, "T up to 200", flooded(taskT(), 0, 200), nil, api.OK)
	mayIs(t, "T up to 200", flooded(taskT(), 0, 200), nil, nil, api.OK)
}

// TestGround is P6.2: what is left lies on the same ground, in every truth.
func TestGround(t *testing.T) {
	for i, c := range []struct {
		left api.StPart
		want int
	}{
		{heavy(150, 1), api.CtGood},
		{heavy(150, 0), api.CtFalls},
		{heavy(100, 1), api.CtGood},
		{heavy(99, 1), api.CtFalls},
		{heavy(200, 1), api.CtGood},
		{heavy(201, 1), api.CtFalls},
		{lies(150, span(0, 1000), 0, span(0, 0)), api.CtFalls},
		{lies(150, span(1, 1000), 0, span(0, 0)), api.CtGood},
		{lies(150, span(50, 50), 0, span(0, 5)), api.CtFalls},
		{lies(150, span(51, 51), 0, span(0, 5)), api.CtGood},
		{lies(150, span(50, 50), 1, span(5, 5)), api.CtGood},
	} {
		at := -1
		if c.want != api.CtGood {
			at = 0
		}
		badIs(t, i, flooded(taskOf(heavy(150, 1000), c.left), 10, 10), ints(0), at, c.want, api.OK)
	}
}

// TestLastPart is P6.2 and P6.4: when the last part is cut, nothing has to stand; nor does the whole hull at first.
func TestLastPart(t *testing.T) {
	floats := flooded(taskOf(lies(150, span(0, 0), 0, span(5, 5))), 0, 1000)
	beyond := taskOf(heavy(0, 1000))
	for i, task := range []api.CtTask{easy(1), floats, beyond} {
		badIs(t, i, task, ints(0), -1, api.CtGood, api.OK)
		mayIs(t, i, task, nil, ints(0), api.OK)
		nextIs(t, i, task, nil, ints(0), api.OK)
		mayIs(t, i, task, ints(0), nil, api.OK)
		nextIs(t, i, task, ints(0), nil, api.OK)
		firstIs(t, i, task, ints(0), api.OK)
		mostIs(t, i, task, ints(0), api.OK)
		toIs(t, i, task, 0, ints(0), api.OK)
		proofIs(t, i, task, nil, api.ErrDown)
		provesIs(t, i, task, ints(1), false, api.OK)
	}
	gas := tanked(easy(1), 0, 2)
	firstIs(t, "gas", gas, nil, api.ErrDown)
	mostIs(t, "gas", gas, nil, api.OK)
	toIs(t, "gas", gas, 0, nil, api.ErrDown)
	proofIs(t, "gas", gas, ints(1), api.OK)
	provesIs(t, "gas", gas, ints(1), true, api.OK)
	// The hull turns over Aft as long as a is there, which has to be cut first.
	turns := taskOf(heavy(0, 1000), heavy(150, 10), heavy(150, 10))
	if surely(turns.Hull, turns.Tide) {
		t.Error("the hull stands at first")
	}
	mayIs(t, "turns", turns, nil, ints(0), api.OK)
	firstIs(t, "turns", turns, ints(0, 1, 2), api.OK)
	badIs(t, "turns", turns, ints(1), 0, api.CtFalls, api.OK)
}

// TestMayNext is P6.3: what can be cut behind an order, and what of it leads on to a whole one.
func TestMayNext(t *testing.T) {
	for i, c := range []struct {
		task      api.CtTask
		order     []int
		may, next []int
		e         api.Errno
	}{
		{taskT(), nil, ints(bow, mid), ints(bow), api.OK},
		{taskT(), ints(bow), ints(stern), ints(stern), api.OK},
		{taskT(), ints(mid), nil, nil, api.OK},
		{taskT(), ints(bow, stern), ints(mid), ints(mid), api.OK},
		{taskT(), ints(bow, stern, mid), nil, nil, api.OK},
		{taskT(), ints(stern), nil, nil, api.ErrDown},
		{taskT(), ints(bow, mid), nil, nil, api.ErrDown},
		{taskT(), ints(bow, bow), nil, nil, api.ErrDown},
		{taskT(), ints(bow, stern, mid, mid), nil, nil, api.ErrDown},
		{taskT(), ints(bow, stern, mid, 3), nil, nil, api.ErrNone},
		{taskT(), ints(stern, 3), nil, nil, api.ErrNone}, // before it is not good
		{taskT(), ints(-1), nil, nil, api.ErrNone},
		{taskU(), nil, ints(mid), nil, api.OK},
		{taskU(), ints(mid), nil, nil, api.OK},
		{taskV(), nil, ints(bow, mid), nil, api.OK},
		{taskV(), ints(bow), nil, nil, api.OK},
		{easy(3), nil, ints(0, 1, 2), ints(0, 1, 2), api.OK},
		{easy(3), ints(2), ints(0, 1), ints(0, 1), api.OK},
		{easy(7), ints(6, 0, 3), ints(1, 2, 4, 5), ints(1, 2, 4, 5), api.OK},
		{tanked(easy(3), 1, 2), nil, ints(0, 2), nil, api.OK},
		{tanked(easy(3), 1, 2), ints(2), ints(0), nil, api.OK},
		{stood(easy(3), 2, 0), nil, ints(1, 2), ints(1, 2), api.OK},
		{stood(easy(3), 2, 0), ints(2), ints(0, 1), ints(0, 1), api.OK},
		{stood(easy(3), 2, 0, 1), nil, ints(2), ints(2), api.OK},
		{held(), nil, ints(0, 1, 2, 3), ints(1, 2, 3), api.OK},
		{held(), ints(0), ints(1), nil, api.OK},
		{held(), ints(1), ints(0, 2, 3), ints(2, 3), api.OK},
		{held(), ints(2, 1), ints(3), ints(3), api.OK},
		{held(), ints(2, 3), ints(0, 1), ints(0, 1), api.OK},
	} {
		mayIs(t, i, c.task, c.order, c.may, c.e)
		nextIs(t, i, c.task, c.order, c.next, c.e)
	}
	for _, n := range far() {
		mayIs(t, n, taskT(), ints(n), nil, api.ErrNone)
		nextIs(t, n, taskT(), ints(stern, n), nil, api.ErrNone)
	}
}

// held is a task whose part 0 just holds the parts 2 and 3, on both sides of the ground, each alone; without it neither stands but with the other one. The part 1 holds nothing.
func held() api.CtTask {
	return taskOf(heavy(150, 20), heavy(150, 5), heavy(90, 100), heavy(210, 90))
}

// TestOrders is P6.4: the first whole order, the first of those with the most cuts, and the first of the shortest ones that end with a part.
func TestOrders(t *testing.T) {
	for i, c := range []struct {
		task  api.CtTask
		first []int
		e     api.Errno
		most  []int
		to    [][]int // an empty one: there is none
	}{
		{taskT(), ints(0, 2, 1), api.OK, ints(0, 2, 1), [][]int{{0}, {1}, {0, 2}}},
		{taskU(), nil, api.ErrDown, ints(1), [][]int{nil, {1}, nil}},
		{taskV(), nil, api.ErrDown, ints(0), [][]int{{0}, {1}, nil}},
		{easy(1), ints(0), api.OK, ints(0), [][]int{{0}}},
		{easy(3), ints(0, 1, 2), api.OK, ints(0, 1, 2), [][]int{{0}, {1}, {2}}},
		{easy(7), ints(0, 1, 2, 3, 4, 5, 6), api.OK, ints(0, 1, 2, 3, 4, 5, 6), [][]int{{0}, {1}, {2}, {3}, {4}, {5}, {6}}},
		{stood(easy(3), 2, 0), ints(1, 2, 0), api.OK, ints(1, 2, 0), [][]int{{2, 0}, {1}, {2}}},
		{stood(stood(easy(4), 1, 0), 2, 1), ints(2, 1, 0, 3), api.OK, ints(2, 1, 0, 3), [][]int{{2, 1, 0}, {2, 1}, {2}, {3}}},
		{stood(easy(4), 3, 0, 1, 2), ints(3, 0, 1, 2), api.OK, ints(3, 0, 1, 2), [][]int{{3, 0}, {3, 1}, {3, 2}, {3}}},
		{tanked(easy(3), 1, 2), nil, api.ErrDown, ints(0, 2), [][]int{{0}, nil, {2}}},
		{tanked(stood(easy(4), 3, 1), 3, 2), nil, api.ErrDown, ints(0, 2), [][]int{{0}, nil, {2}, nil}},
		{stood(taskT(), stern, mid), ints(0, 2, 1), api.OK, ints(0, 2, 1), [][]int{{0}, {0, 2, 1}, {0, 2}}},
		{held(), ints(1, 2, 3, 0), api.OK, ints(1, 2, 3, 0), [][]int{{0}, {1}, {2}, {3}}},
		{tanked(held(), 3, 2), nil, api.ErrDown, ints(0, 1), [][]int{{0}, {1}, {2}, nil}},
		{stood(held(), 3, 1), ints(2, 3, 0, 1), api.OK, ints(2, 3, 0, 1), [][]int{{0}, {3, 1}, {2}, {3}}},
		{stood(held(), 3, 0), ints(1, 2, 3, 0), api.OK, ints(1, 2, 3, 0), [][]int{{2, 3, 0}, {1}, {2}, {3}}},
		{tanked(stood(held(), 3, 0), 2, 2), nil, api.ErrDown, ints(1, 3), [][]int{nil, {1}, nil, {3}}},
	} {
		firstIs(t, i, c.task, c.first, c.e)
		mostIs(t, i, c.task, c.most, api.OK)
		for part, want := range c.to {
			e := api.OK
			if len(want) == 0 {
				e = api.ErrDown
			}
			toIs(t, i, c.task, part, want, e)
		}
	}
	for _, n := range append(far(), 3, 7) {
		toIs(t, n, taskT(), n, nil, api.ErrNone)
		toIs(t, n, taskU(), n, nil, api.ErrNone)
	}
	toIs(t, "a part more", easy(7), 7, nil, api.ErrNone)
}

// TestProof is P6.5: the sets that are left behind good orders prove that none is whole.
func TestProof(t *testing.T) {
	for i, c := range []struct {
		task api.CtTask
		want []int
		e    api.Errno
	}{
		{taskT(), nil, api.ErrDown},
		{taskU(), ints(5, 7), api.OK},
		{taskV(), ints(5, 6, 7), api.OK},
		{easy(7), nil, api.ErrDown},
		{tanked(easy(1), 0, 0), ints(1), api.OK},
		{tanked(easy(3), 1, 2), ints(2, 3, 6, 7), api.OK},
		{tanked(stood(easy(3), 2, 1), 2, 2), ints(6, 7), api.OK},
		{tanked(stood(easy(3), 1, 0), 0, 2), ints(1, 3, 5, 7), api.OK},
	} {
		proofIs(t, i, c.task, c.want, c.e)
		provesIs(t, i, c.task, c.want, c.e == api.OK, api.OK)
	}
	sets, e := cut.Proof(tanked(easy(7), 6, 0))
	var want []int
	for left := 64; left < 128; left++ {
		want = append(want, left)
	}
	if !slices.Equal(sets, want) || e != api.OK {
		t.Errorf("Proof = %v, %d", sets, e)
	}
}

// TestProves is P6.5: whether sets prove that no order is whole, in any order, told twice, and with more than the least.
func TestProves(t *testing.T) {
	for i, c := range []struct {
		task api.CtTask
		sets []int
		want bool
		e    api.Errno
	}{
		{taskU(), ints(5, 7), true, api.OK},
		{taskU(), ints(7, 5), true, api.OK},
		{taskU(), ints(7, 5, 7, 5, 5), true, api.OK},
		{taskU(), ints(7), false, api.OK}, // mid can be cut
		{taskU(), ints(5), false, api.OK}, // not all parts together
		{taskU(), nil, false, api.OK},
		{taskU(), ints(), false, api.OK},
		{taskU(), ints(0), false, api.OK},
		{taskU(), ints(0, 5, 7), false, api.OK}, // one without parts
		{taskU(), ints(5, 7, 0), false, api.OK},
		{taskU(), ints(3, 5, 7), true, api.OK}, // behind no order, but nothing can be cut of it
		{taskU(), ints(7, 3, 5), true, api.OK},
		{taskU(), ints(4, 5, 7), false, api.OK}, // the last part that is left
		{taskU(), ints(5, 6, 7), false, api.OK},
		{taskU(), ints(0, 1, 2, 3, 4, 5, 6, 7), false, api.OK},
		{taskU(), ints(1, 2, 3, 4, 5, 6, 7), false, api.OK},
		{taskV(), ints(5, 6, 7), true, api.OK},
		{taskV(), ints(6, 7, 5), true, api.OK},
		{taskV(), ints(4, 5, 6, 7), true, api.OK},
		{taskV(), ints(5, 7), false, api.OK},
		{taskV(), ints(6, 7), false, api.OK},
		{taskV(), ints(5, 6), false, api.OK},
		{taskT(), ints(5, 6, 7), false, api.OK}, // of 6 stern can be cut
		{taskT(), ints(2, 5, 6, 7), false, api.OK},
		{taskT(), ints(0, 2, 5, 6, 7), false, api.OK},
		{taskU(), ints(5, 7, 8), false, api.ErrRange},
		{taskU(), ints(8), false, api.ErrRange},
		{taskU(), ints(16), false, api.ErrRange},
		{taskU(), ints(13, 15), false, api.ErrRange}, // the sets, each with a bit of no part
		{taskU(), ints(-1, 5, 7), false, api.ErrRange},
		{taskU(), ints(5, 7, -1), false, api.ErrRange},
		{taskU(), ints(0, 9), false, api.ErrRange}, // before one without parts
		{taskU(), ints(-3, 7), false, api.ErrRange},
		{taskT(), ints(-8), false, api.ErrRange},
		{tanked(easy(7), 6, 0), ints(128), false, api.ErrRange},
		{tanked(easy(7), 6, 0), ints(127), false, api.OK},
	} {
		provesIs(t, i, c.task, c.sets, c.want, c.e)
	}
	for _, n := range far() {
		provesIs(t, n, taskU(), ints(5, 7, n), false, api.ErrRange)
		provesIs(t, n, taskT(), ints(n), false, api.ErrRange)
		provesIs(t, n, easy(7), ints(n), false, api.ErrRange)
	}
	long := make([]int, 100000)
	for i := range long {
		long[i] = 5 + 2*(i%2)
	}
	provesIs(t, "a long list", taskU(), long, true, api.OK)
}
