package hull_test

import (
	"slices"
	"testing"

	"orlop/api"
	"orlop/hull"
)

func TestShipExamples(t *testing.T) {
	q := planQ().Ship.Parts
	pipe := part("pipe1", api.HuPipe, 12, 30, 100, 200, "tank1")
	later := []api.HuPart{
		q[0],
		part("hold1", api.HuPlate, 10, 29, 800, 900, "keel"),
		part("deck", api.HuPlate, 5, 24, 3000, 3000, "hold1", "keel"),
		part("pipe1", api.HuPipe, 12, 30, 100, 200, "hold1"),
	}
	for _, c := range []struct {
		day  int
		want []api.HuPart
	}{
		{0, q}, {99, q}, {100, append(slices.Clone(q), pipe)}, {150, append(slices.Clone(q), pipe)},
		{199, append(slices.Clone(q), pipe)}, {200, later}, {api.MaxDay, later},
	} {
		if s := mustShip(t, planP(), c.day); !sameShips(s, api.HuShip{Parts: c.want}) {
			t.Errorf("on the day %d: %v", c.day, s)
		}
	}
}

func TestShipChanges(t *testing.T) {
	a, b, c := part("a", 1, 0, 40, 1, 1), part("b", 2, 0, 40, 2, 2, "a"), part("c", 3, 0, 40, 3, 3, "b", "a")
	x := part("x", 4, 10, 20, 4, 5)
	for i, w := range []struct {
		changes []api.HuChange
		day     int
		want    []api.HuPart
	}{
		{nil, 0, []api.HuPart{a, b, c}},
		{[]api.HuChange{take(0, "c")}, 0, []api.HuPart{a, b}},
		{[]api.HuChange{take(40000, "c")}, 39999, []api.HuPart{a, b, c}},
		{[]api.HuChange{take(40000, "c")}, 40000, []api.HuPart{a, b}},
		{[]api.HuChange{take(0, "c"), take(0, "b"), take(0, "a")}, 0, nil},
		{[]api.HuChange{swap(5, "c", part("c", 4, 1, 2, 3, 4, "a"))}, 5, []api.HuPart{a, b, part("c", 4, 1, 2, 3, 4, "a")}},
		{[]api.HuChange{swap(5, "a", x)}, 5, []api.HuPart{x, part("b", 2, 0, 40, 2, 2, "x"), part("c", 3, 0, 40, 3, 3, "b", "x")}},
		{[]api.HuChange{swap(5, "a", x), swap(6, "x", a)}, 6, []api.HuPart{a, b, c}},
		{[]api.HuChange{swap(5, "b", x)}, 5, []api.HuPart{a, x, part("c", 3, 0, 40, 3, 3, "x", "a")}},
		{[]api.HuChange{add(5, x), take(6, "c"), add(6, c)}, 6, []api.HuPart{a, b, x, c}},
		{[]api.HuChange{add(5, x), take(6, "c"), add(6, c)}, 5, []api.HuPart{a, b, c, x}},
	} {
		if s := mustShip(t, with(built(a, b, c), w.changes...), w.day); !sameShips(s, api.HuShip{Parts: w.want}) {
			t.Errorf("%d: %v", i, s)
		}
	}
}

func TestDays(t *testing.T) {
	for _, day := range []int{0, api.MaxDay, -1, api.MaxDay + 1, least, greatest} {
		want := api.OK
		if day < 0 || day > api.MaxDay {
			want = api.ErrRange
		}
		l := []api.HuPlan{planQ(), planP()}
		s, e := hull.Ship(planQ(), day)
		if e != want || (e != api.OK && s.Parts != nil) {
			t.Errorf("Ship on the day %d: %v, %d", day, s, e)
		}
		// Behind the error of the day stand those of other arguments.
		if want == api.OK {
			continue
		}
		for i, e := range []api.Errno{
			second(hull.Weigh(planQ(), day, 5, 4)), second(hull.Above(planQ(), day, "none")), second(hull.Differ(planQ(), planP(), day)),
			second(hull.Agree(l, day, make([]api.HuSight, 13))), third(hull.Sure(l, day, make([]api.HuSight, 1))), fourth(hull.Ask(l, day, make([]api.HuSight, 13))),
		} {
			if e != want {
				t.Errorf("%d on the day %d: error %d", i, day, e)
			}
		}
	}
}

func TestWeigh(t *testing.T) {
	three := built(part("a", 1, 1, 3, 10, 11), part("b", 1, 40, 40, 7, 1000000))
	twelve := full(12)
	for i, c := range []struct {
		p                api.HuPlan
		day, first, last int
		want             api.Span
	}{
		{planQ(), 0, 10, 19, api.Span{Lo: 5695, Hi: 6440}},
		{planQ(), 0, 0, 40, api.Span{Lo: 14000, Hi: 15500}},
		{planP(), 100, 0, 40, api.Span{Lo: 14100, Hi: 15700}},
		{planP(), 200, 0, 40, api.Span{Lo: 12900, Hi: 14100}},
		{three, 0, 0, 0, api.Span{}},
		{three, 0, 1, 1, api.Span{Lo: 3, Hi: 4}},
		{three, 0, 0, 2, api.Span{Lo: 6, Hi: 8}},
		{three, 0, 3, 39, api.Span{Lo: 3, Hi: 4}},
		{three, 0, 2, 2, api.Span{Lo: 3, Hi: 4}},
		{three, 0, 4, 39, api.Span{}},
		{three, 0, 3, 40, api.Span{Lo: 10, Hi: 1000004}},
		{three, 0, 40, 40, api.Span{Lo: 7, Hi: 1000000}},
		{twelve, 0, 0, 40, api.Span{Lo: 12000000, Hi: 12000000}},
		// Of each part the ends are rounded: 12 times 32258.06, and 12 times 32258.06 upwards.
		{twelve, 0, 0, 10, api.Span{Lo: 387096, Hi: 387108}},
		{api.HuPlan{}, 7, 0, 40, api.Span{}},
	} {
		w, e := hull.Weigh(c.p, c.day, c.first, c.last)
		if w != c.want || e != api.OK {
			t.Errorf("%d: Weigh = %v, %d", i, w, e)
		}
	}
	for _, c := range [][2]int{{-1, 5}, {5, 41}, {5, 4}, {41, 41}, {-1, -1}, {40, 0}, {least, greatest}, {greatest, least}, {0, greatest}, {least, 40}} {
		w, e := hull.Weigh(planQ(), 0, c[0], c[1])
		if w != (api.Span{}) || e != api.ErrRange {
			t.Errorf("Weigh %v = %v, %d", c, w, e)
		}
	}
}

func TestAbove(t *testing.T) {
	// a is under b and d, b under c, d under nothing; e is alone.
	tower := built(part("a", 1, 0, 40, 1, 1), part("b", 1, 0, 40, 1, 1, "a"), part("e", 1, 0, 40, 1, 1), part("c", 1, 0, 40, 1, 1, "b"), part("d", 1, 0, 40, 1, 1, "a"))
	twelve := full(12)
	for i, c := range []struct {
		p    api.HuPlan
		day  int
		name string
		want []string
		e    api.Errno
	}{
		{planP(), 200, "keel", []string{"hold1", "deck", "pipe1"}, api.OK},
		{planP(), 200, "hold1", []string{"deck", "pipe1"}, api.OK},
		{planP(), 200, "pipe1", nil, api.OK},
		{planP(), 200, "tank1", nil, api.ErrNone},
		{planP(), 199, "hold1", nil, api.ErrNone},
		{planP(), 199, "tank1", []string{"deck", "pipe1"}, api.OK},
		{tower, 0, "a", []string{"b", "c", "d"}, api.OK},
		{tower, 0, "b", []string{"c"}, api.OK},
		{tower, 0, "e", nil, api.OK},
		{twelve, 0, twelve.Ship.Parts[0].Name, names(twelve.Ship)[1:], api.OK},
		{tower, 0, "", nil, api.ErrNone},
		{tower, 0, "no name", nil, api.ErrNone},
		{api.HuPlan{}, 0, "a", nil, api.ErrNone},
	} {
		l, e := hull.Above(c.p, c.day, c.name)
		if !slices.Equal(l, c.want) || e != c.e {
			t.Errorf("%d: Above = %v, %d", i, l, e)
		}
	}
}

func TestDiffer(t *testing.T) {
	a := part("a", 1, 5, 20, 10, 20)
	low, side := part("low", 1, 0, 40, 1, 1), part("side", 1, 0, 40, 1, 1)
	on := part("b", 1, 0, 40, 1, 1, "low", "side")
	for i, c := range []struct {
		p, q api.HuPlan
		day  int
		want []string
	}{
		{planP(), planQ(), 99, nil},
		{planP(), planQ(), 100, []string{"pipe1"}},
		{planP(), planQ(), 200, []string{"deck", "hold1", "pipe1", "tank1"}},
		{built(a), built(part("a", 2, 5, 20, 10, 20)), 0, []string{"a"}},
		{built(a), built(part("a", 1, 4, 20, 10, 20)), 0, []string{"a"}},
		{built(a), built(part("a", 1, 5, 21, 10, 20)), 0, []string{"a"}},
		{built(a), built(part("a", 1, 5, 20, 9, 20)), 0, []string{"a"}},
		{built(a), built(part("a", 1, 5, 20, 10, 21)), 0, []string{"a"}},
		{built(a), built(part("b", 1, 5, 20, 10, 20)), 0, []string{"a", "b"}},
		{built(a), api.HuPlan{}, 0, []string{"a"}},
		{api.HuPlan{}, api.HuPlan{}, 0, nil},
		{built(low, side, on), built(side, low, on), 0, nil},
		{built(low, side, on), built(low, side, part("b", 1, 0, 40, 1, 1, "side", "low")), 0, []string{"b"}},
		{built(low, side, on), built(low, side, part("b", 1, 0, 40, 1, 1, "low")), 0, []string{"b"}},
		{built(low, side, on), built(low, side, part("b", 1, 0, 40, 1, 1)), 0, []string{"b"}},
		{built(low, part("b", 1, 0, 0, 1, 1)), built(part("b1", 1, 0, 0, 1, 1), part("a9", 1, 0, 0, 1, 1)), 0, []string{"a9", "b", "b1", "low"}},
	} {
		for _, turned := range []bool{false, true} {
			p, q := c.p, c.q
			if turned {
				p, q = q, p
			}
			if l, e := hull.Differ(p, q, c.day); !slices.Equal(l, c.want) || e != api.OK {
				t.Errorf("%d: Differ = %v, %d", i, l, e)
			}
		}
	}
	if l, e := hull.Differ(planP(), planQ(), -1); l != nil || e != api.ErrRange {
		t.Errorf("Differ = %v, %d", l, e)
	}
}
