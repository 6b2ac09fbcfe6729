package cut_test

import (
	"math/rand/v2"
	"slices"
	"testing"

	"orlop/api"
	"orlop/cut"
	"orlop/stand"
	"orlop/vent"
)

const (
	least    = -1 << 63
	greatest = 1<<63 - 1
)

// The parts of the chapter's tasks.
const (
	bow = iota
	mid
	stern
)

// far is numbers that are in no range of the chapters, no index and no set of parts, whatever is left of them in fewer bits.
func far() []int {
	return []int{-1, -128, 1 << 16, 1<<16 + 1, 1 << 31, 1 << 32, 1<<32 + 7, -1 << 32, 1<<62 + 3, least, least + 1, greatest - 1, greatest}
}

func span(lo, hi int) api.Span { return api.Span{Lo: lo, Hi: hi} }

func ints(l ...int) []int { return l }

// lies is how a part lies on the ground.
func lies(at int, weight api.Span, keel int, lift api.Span) api.StPart {
	return api.StPart{At: at, Weight: weight, Keel: keel, Lift: lift}
}

// heavy is a part of which all is known, and which water does not lift.
func heavy(at, weight int) api.StPart { return lies(at, span(weight, weight), 0, span(0, 0)) }

// taskOf is a task with the parts a, b and so on, none of which stands on another one or has tanks, on the ground from 100 to 200, without water. Its net has the tanks a (Kept), b and c, without pipes, of which b is free.
func taskOf(parts ...api.StPart) api.CtTask {
	t := api.CtTask{
		Hull:  api.StHull{Aft: 100, Fore: 200},
		Net:   api.VnNet{Tanks: []api.VnTank{{Name: "a", Kept: true}, {Name: "b"}, {Name: "c"}}},
		Steps: []api.VnStep{{Tank: 1}, {Tank: 1, Off: true}},
		Tanks: make([][]int, len(parts)),
	}
	for i, x := range parts {
		x.Name = string(rune('a' + i))
		t.Hull.Parts = append(t.Hull.Parts, x)
		t.Ship.Parts = append(t.Ship.Parts, api.HuPart{Name: x.Name, Kind: api.HuPlate, Last: 9, Weight: span(1, 1)})
	}
	return t
}

// easy is a task whose n parts can be cut in any order.
func easy(n int) api.CtTask {
	var parts []api.StPart
	for range n {
		parts = append(parts, heavy(150, 10))
	}
	return taskOf(parts...)
}

// stood puts a part of a task on others.
func stood(t api.CtTask, part int, on ...int) api.CtTask {
	t = copyOf(t)
	for _, i := range on {
		t.Ship.Parts[part].On = append(t.Ship.Parts[part].On, t.Ship.Parts[i].Name)
	}
	return t
}

// tanked gives a part of a task tanks.
func tanked(t api.CtTask, part int, tanks ...int) api.CtTask {
	t = copyOf(t)
	t.Tanks[part] = tanks
	return t
}

// flooded gives a task another tide.
func flooded(t api.CtTask, lo, hi int) api.CtTask {
	t.Tide = span(lo, hi)
	return t
}

// taskT, taskU and taskV are T, U and V of the chapter's examples.
func taskT() api.CtTask {
	part := func(name string, kind, first, last int) api.HuPart {
		return api.HuPart{Name: name, Kind: kind, First: first, Last: last, Weight: span(1, 1)}
	}
	t := api.CtTask{
		Ship: api.HuShip{Parts: []api.HuPart{part("bow", api.HuBeam, 0, 10), part("mid", api.HuPlate, 5, 30), part("stern", api.HuPlate, 25, 40)}},
		Hull: api.StHull{Aft: 200, Fore: 800, Parts: []api.StPart{
			lies(100, span(1000, 1200), 50, span(10, 12)),
			lies(400, span(500, 600), 100, span(4, 5)),
			lies(900, span(2000, 2000), 100, span(20, 20)),
		}},
		Tide: span(0, 60),
		Net: api.VnNet{
			Tanks: []api.VnTank{{Name: "a", Kept: true}, {Name: "b"}, {Name: "c"}, {Name: "d"}, {Name: "e"}},
			Pipes: []api.VnPipe{{From: 0, To: 1}, {From: 1, To: 2}, {From: 0, To: 2}, {From: 2, To: 3}, {From: 3, To: 4}, {From: 2, To: 4}},
		},
		Blanks: ints(3, 5),
		Steps:  []api.VnStep{{Tank: 3}, {Tank: 4}, {Tank: 3, Off: true}, {Tank: 4, Off: true}},
		Tanks:  [][]int{nil, ints(3, 4), nil},
	}
	for i, x := range t.Ship.Parts {
		t.Hull.Parts[i].Name = x.Name
	}
	return t
}

func taskU() api.CtTask { return stood(taskT(), mid, bow) }

func taskV() api.CtTask { return tanked(taskT(), stern, 2) }

// copyOf is a task that shares no memory with another one.
func copyOf(t api.CtTask) api.CtTask {
	t.Ship.Parts = slices.Clone(t.Ship.Parts)
	for i := range t.Ship.Parts {
		t.Ship.Parts[i].On = slices.Clone(t.Ship.Parts[i].On)
	}
	t.Hull.Parts = slices.Clone(t.Hull.Parts)
	t.Net.Tanks, t.Net.Pipes = slices.Clone(t.Net.Tanks), slices.Clone(t.Net.Pipes)
	t.Blanks, t.Steps = slices.Clone(t.Blanks), slices.Clone(t.Steps)
	t.Tanks = slices.Clone(t.Tanks)
	for i := range t.Tanks {
		t.Tanks[i] = slices.Clone(t.Tanks[i])
	}
	return t
}

// rest is what is left of the hull of a task: the parts in a set.
func rest(t api.CtTask, left int) api.StHull {
	h := api.StHull{Aft: t.Hull.Aft, Fore: t.Hull.Fore}
	for i, x := range t.Hull.Parts {
		if left>>i&1 == 1 {
			h.Parts = append(h.Parts, x)
		}
	}
	return h
}

// surely is whether a hull surely stands through a tide.
func surely(h api.StHull, tide api.Span) bool {
	why, _, e := stand.Why(h, tide)
	return why == api.StStands && e == api.OK
}

// reason is why a part cannot be cut of a set, by the chapter's words.
func reason(t api.CtTask, left, part int) int {
	laden, gas := false, false
	for i, x := range t.Ship.Parts {
		laden = laden || left>>i&1 == 1 && slices.Contains(x.On, t.Ship.Parts[part].Name)
	}
	after, _ := vent.After(t.Net, t.Blanks, t.Steps)
	for _, tank := range t.Tanks[part] {
		gas = gas || !slices.Contains(after.Free, tank)
	}
	others := left &^ (1 << part)
	switch {
	case left>>part&1 == 0:
		return api.CtGone
	case laden:
		return api.CtAbove
	case gas:
		return api.CtGas
	case others != 0 && !surely(rest(t, others), t.Tide):
		return api.CtFalls
	}
	return api.CtGood
}

// reasons is why each part cannot be cut of each set of parts.
func reasons(t api.CtTask) [][]int {
	var all [][]int
	for left := range 1 << len(t.Ship.Parts) {
		var l []int
		for part := range t.Ship.Parts {
			l = append(l, reason(t, left, part))
		}
		all = append(all, l)
	}
	return all
}

// behind is the set that is left of n parts behind an order in which no part is twice.
func behind(n int, order []int) int {
	left := 1<<n - 1
	for _, part := range order {
		left -= 1 << part
	}
	return left
}

// goodOrders is all good orders of n parts, in the order in which they are compared: each order is tried from its first cut on.
func goodOrders(n int, why [][]int) [][]int {
	var all [][]int
	var next func(order []int)
	next = func(order []int) {
		all = append(all, order)
		for part := range n {
			if why[behind(n, order)][part] == api.CtGood {
				next(append(slices.Clone(order), part))
			}
		}
	}
	next(nil)
	return all
}

// firstOf is the first of some orders that is wanted, whether there is one.
func firstOf(orders [][]int, wanted func(order []int) bool) ([]int, bool) {
	i := slices.IndexFunc(orders, wanted)
	if i < 0 {
		return nil, false
	}
	return orders[i], true
}

// wholeOf is the first of some orders with n cuts.
func wholeOf(orders [][]int, n int) ([]int, bool) {
	return firstOf(orders, func(order []int) bool { return len(order) == n })
}

// mostOf is the first of some orders with the most cuts.
func mostOf(orders [][]int) []int {
	return slices.MaxFunc(orders, func(a, b []int) int { return len(a) - len(b) })
}

// endOf is the first of the shortest of some orders that end with a part.
func endOf(orders [][]int, part int) ([]int, bool) {
	var ends [][]int
	for _, order := range orders {
		if len(order) > 0 && order[len(order)-1] == part {
			ends = append(ends, order)
		}
	}
	if len(ends) == 0 {
		return nil, false
	}
	return slices.MinFunc(ends, func(a, b []int) int { return len(a) - len(b) }), true
}

// setsOf is all sets that are left behind some orders, ascending.
func setsOf(n int, orders [][]int) []int {
	var sets []int
	for _, order := range orders {
		sets = append(sets, behind(n, order))
	}
	slices.Sort(sets)
	return slices.Compact(sets)
}

// goesOn is the parts with which some orders of at least so many cuts go on behind an order.
func goesOn(orders [][]int, order []int, cuts int) []int {
	var parts []int
	for _, o := range orders {
		if len(o) > len(order) && len(o) >= cuts && slices.Equal(o[:len(order)], order) {
			parts = append(parts, o[len(order)])
		}
	}
	slices.Sort(parts)
	return slices.Compact(parts)
}

// proves is whether sets prove that no order is whole, by the chapter's words.
func proves(n int, why [][]int, sets []int) bool {
	if !slices.Contains(sets, 1<<n-1) || slices.Contains(sets, 0) {
		return false
	}
	for _, left := range sets {
		for part := range n {
			if why[left][part] == api.CtGood && !slices.Contains(sets, left-1<<part) {
				return false
			}
		}
	}
	return true
}

// randomSpan is a span of at most n numbers from lo to hi.
func randomSpan(r *rand.Rand, lo, hi, n int) api.Span {
	s := span(lo+r.IntN(hi-lo+1), 0)
	s.Hi = min(hi, s.Lo+r.IntN(n))
	return s
}

// randomTask is a task of n parts; some parts are beyond the ground, stand on others, or have tanks.
func randomTask(r *rand.Rand, n int) api.CtTask {
	var parts []api.StPart
	beyond, lift := r.IntN(4), 1+r.IntN(8)
	for range n {
		x := lies(100+r.IntN(101), randomSpan(r, 0, 400, 60), r.IntN(60), randomSpan(r, 0, lift, 3))
		if r.IntN(6) < beyond {
			x.At = r.IntN(301)
		}
		parts = append(parts, x)
	}
	t := taskOf(parts...)
	t.Tide = randomSpan(r, 0, 120, 60)
	t.Steps = t.Steps[:r.IntN(3)]
	load, gas := 2+r.IntN(12), 6+r.IntN(20)
	for i := range n {
		for j := range i {
			if r.IntN(load) == 0 {
				t = stood(t, i, j)
			}
		}
		t.Tanks[i] = randomTanks(r, gas)
	}
	return t
}

// randomTanks is tanks of taskOf's net; more of them keep their gas the less gas is.
func randomTanks(r *rand.Rand, gas int) []int {
	var tanks []int
	for tank, often := range ints(gas, 3, gas) {
		if r.IntN(often) == 0 {
			tanks = append(tanks, tank)
		}
	}
	return tanks
}

// many runs a test with random numbers that are the same in each run.
func many(t *testing.T, n int, test func(r *rand.Rand)) {
	t.Helper()
	for i := range n {
		test(rand.New(rand.NewPCG(uint64(i), 6)))
		if t.Failed() {
			t.Fatalf("failed with the random numbers %d", i)
		}
	}
}

// enough checks that random arguments led to something often enough.
func enough(t *testing.T, what string, n, want int) {
	t.Helper()
	if n < want {
		t.Errorf("%s: only %d times", what, n)
	}
}

// badIs, mayIs, and so on check what a function returns.
func badIs(t *testing.T, what any, task api.CtTask, order []int, at, why int, f api.Errno) {
	t.Helper()
	if gotAt, got, e := cut.Bad(task, order); gotAt != at || got != why || e != f {
		t.Errorf("%v: Bad of %v = %d, %d, %d; want %d, %d, %d", what, order, gotAt, got, e, at, why, f)
	}
}

func mayIs(t *testing.T, what any, task api.CtTask, order, want []int, f api.Errno) {
	t.Helper()
	if got, e := cut.May(task, order); !slices.Equal(got, want) || e != f {
		t.Errorf("%v: May behind %v = %v, %d; want %v, %d", what, order, got, e, want, f)
	}
}

func nextIs(t *testing.T, what any, task api.CtTask, order, want []int, f api.Errno) {
	t.Helper()
	if got, e := cut.Next(task, order); !slices.Equal(got, want) || e != f {
		t.Errorf("%v: Next behind %v = %v, %d; want %v, %d", what, order, got, e, want, f)
	}
}

func firstIs(t *testing.T, what any, task api.CtTask, want []int, f api.Errno) {
	t.Helper()
	if got, e := cut.First(task); !slices.Equal(got, want) || e != f {
		t.Errorf("%v: First = %v, %d; want %v, %d", what, got, e, want, f)
	}
}

func mostIs(t *testing.T, what any, task api.CtTask, want []int, f api.Errno) {
	t.Helper()
	if got, e := cut.Most(task); !slices.Equal(got, want) || e != f {
		t.Errorf("%v: Most = %v, %d; want %v, %d", what, got, e, want, f)
	}
}

func toIs(t *testing.T, what any, task api.CtTask, part int, want []int, f api.Errno) {
	t.Helper()
	if got, e := cut.To(task, part); !slices.Equal(got, want) || e != f {
		t.Errorf("%v: To %d = %v, %d; want %v, %d", what, part, got, e, want, f)
	}
}

func proofIs(t *testing.T, what any, task api.CtTask, want []int, f api.Errno) {
	t.Helper()
	if got, e := cut.Proof(task); !slices.Equal(got, want) || e != f {
		t.Errorf("%v: Proof = %v, %d; want %v, %d", what, got, e, want, f)
	}
}

func provesIs(t *testing.T, what any, task api.CtTask, sets []int, want bool, f api.Errno) {
	t.Helper()
	if got, e := cut.Proves(task, sets); got != want || e != f {
		t.Errorf("%v: Proves of %v = %v, %d; want %v, %d", what, sets, got, e, want, f)
	}
}
