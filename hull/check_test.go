package hull_test

import (
	"strings"
	"testing"

	"orlop/api"
	"orlop/hull"
)

func TestName(t *testing.T) {
	for _, s := range []string{"a", "z", "a0", "z9", "keel", "tank1", "abcdefghijklmnop", "a123456789012345"} {
		if !hull.Name(s) {
			t.Errorf("%q is a name", s)
		}
	}
	for _, s := range []string{"", "0", "9a", "A", "aB", "a b", " a", "a ", "a_", "a\x00", "a\n", "`", "{", "a`", "a{", "a/", "a:", "ä", "aä", "a\xff", "abcdefghijklmnopq", strings.Repeat("a", 100000)} {
		if hull.Name(s) {
			t.Errorf("%q is no name", s)
		}
	}
}

// base is a plan whose side is apart from what repairs tells.
func base() api.HuPlan {
	return built(part("keel", api.HuBeam, 0, 40, 1, 1), part("side", api.HuPlate, 0, 9, 1, 1, "keel"))
}

// repairs is a part with all errors, which are repaired one after the other, and which error it has each time.
func repairs() ([]api.HuPart, []api.Errno) {
	return []api.HuPart{
		part("New", 6, 20, 41, 2, 0, "keel", "keel", "side", "none"),
		part("side", 6, 20, 41, 2, 0, "keel", "keel", "side", "none"),
		part("new", 6, 20, 10, 2, 1, "keel", "keel", "side", "none"),
		part("new", 5, 20, 10, 1, 2, "keel", "keel", "side", "none"),
		part("new", 5, 10, 20, 2, 1, "keel", "keel", "side", "none"),
		part("new", 5, 10, 20, 1, 2, "keel", "keel", "side", "none"),
		part("new", 5, 10, 20, 1, 2, "keel", "side", "keel"),
		part("new", 5, 10, 20, 1, 2, "keel", "side"),
		part("new", 5, 9, 20, 1, 2, "keel", "side"),
	}, []api.Errno{
		api.ErrForm, api.ErrTwice, api.ErrRange, api.ErrArg, api.ErrArg, api.ErrNone, api.ErrTwice, api.ErrDown, api.OK,
	}
}

// checks that Check returns a part, an index and an error; without an error it returns zeros.
func checks(t *testing.T, what any, p api.HuPlan, part, at int, e api.Errno) {
	t.Helper()
	if e == api.OK {
		part, at = 0, 0
	}
	gotPart, gotAt, got := hull.Check(p)
	if gotPart != part || gotAt != at || got != e {
		t.Errorf("%v: Check = %d, %d, %d; want %d, %d, %d", what, gotPart, gotAt, got, part, at, e)
	}
}

func TestCheckPartInOrder(t *testing.T) {
	parts, errnos := repairs()
	for i, x := range parts {
		p := base()
		p.Ship.Parts = append(p.Ship.Parts, x)
		checks(t, i, p, 1, 2, errnos[i])
		checks(t, i, with(base(), take(3, "side"), add(3, part("side", 1, 0, 9, 1, 1)), add(4, x)), 2, 2, errnos[i])
		// In the place of old the parts before it are the same, and one that is called like it is behind.
		p = base()
		p.Ship.Parts = append(p.Ship.Parts, part("old", 1, 0, 40, 1, 1), part("last", 1, 0, 40, 1, 1, "old"))
		checks(t, i, with(p, swap(0, "old", x)), 2, 0, errnos[i])
	}
}

func TestCheckNumbers(t *testing.T) {
	good := part("x", 3, 5, 5, 7, 7)
	for i, c := range []struct {
		change func(x *api.HuPart, n int)
		lo, hi int
	}{
		{func(x *api.HuPart, n int) { x.Kind = n }, 1, 5},
		{func(x *api.HuPart, n int) { x.First, x.Last = n, max(n, 5) }, 0, 40},
		{func(x *api.HuPart, n int) { x.Last, x.First = n, min(n, 5) }, 0, 40},
		{func(x *api.HuPart, n int) { x.Weight.Lo, x.Weight.Hi = n, max(n, 7) }, 1, 1000000},
		{func(x *api.HuPart, n int) { x.Weight.Hi, x.Weight.Lo = n, min(n, 7) }, 1, 1000000},
		{func(x *api.HuPart, n int) { x.First = n; x.Last = 40 }, 0, 40},
		{func(x *api.HuPart, n int) { x.Last = n; x.First = 0 }, 0, 40},
		{func(x *api.HuPart, n int) { x.Weight = api.Span{Lo: n, Hi: 1000000} }, 1, 1000000},
		{func(x *api.HuPart, n int) { x.Weight = api.Span{Lo: 1, Hi: n} }, 1, 1000000},
	} {
		for _, n := range []int{c.lo, c.hi} {
			x := good
			c.change(&x, n)
			checks(t, i, built(x), 0, 0, api.OK)
		}
		for _, n := range []int{c.lo - 1, c.hi + 1, least, greatest, -1 << 32, 1 << 32} {
			x := good
			c.change(&x, n)
			checks(t, i, built(good, good), 1, 1, api.ErrTwice)
			checks(t, i, built(x), 1, 0, api.ErrRange)
			checks(t, i, with(api.HuPlan{}, add(0, x)), 2, 0, api.ErrRange)
			checks(t, i, with(built(good), swap(0, "x", x)), 2, 0, api.ErrRange)
		}
	}
}

func TestCheckTooMany(t *testing.T) {
	checks(t, "none", api.HuPlan{}, 0, 0, api.OK)
	checks(t, "12 parts", full(12), 0, 0, api.OK)
	checks(t, "13 parts", full(13), 1, 0, api.ErrLong)
	checks(t, "13 parts, with errors", built(make([]api.HuPart, 13)...), 1, 0, api.ErrLong)
	checks(t, "an error in both", with(built(api.HuPart{}), make([]api.HuChange, 9)...), 1, 0, api.ErrForm)
	eight := make([]api.HuChange, 8)
	for i := range eight {
		eight[i] = swap(i, "keel", part("keel", 1, 0, 40, 1, 1))
	}
	checks(t, "8 changes", with(planQ(), eight...), 0, 0, api.OK)
	checks(t, "9 changes", with(planQ(), append(eight, eight[7])...), 2, 0, api.ErrLong)
	checks(t, "9 changes, with errors", with(planQ(), make([]api.HuChange, 9)...), 2, 0, api.ErrLong)
	first := "abcdefghijklmnoa"
	last := "abcdefghijklmnol"
	checks(t, "a 13th part", with(full(12), add(0, api.HuPart{})), 2, 0, api.ErrLong)
	checks(t, "a 12th part", with(full(11), add(0, part("x", 1, 0, 0, 1, 1))), 0, 0, api.OK)
	checks(t, "a part for another one", with(full(12), take(0, last), add(0, part("x", 1, 0, 0, 1, 1)), add(0, part("y", 1, 0, 0, 1, 1))), 2, 2, api.ErrLong)
	checks(t, "a swap does not need room", with(full(12), swap(0, first, part("x", 1, 0, 40, 1, 1))), 0, 0, api.OK)
	many := make([]string, 100000)
	for i := range many {
		many[i] = "keel"
	}
	checks(t, "many names in On", built(part("keel", 2, 0, 40, 1, 1), part("x", 1, 0, 0, 1, 1, many...)), 1, 1, api.ErrTwice)
}

func TestCheckFirstPart(t *testing.T) {
	parts := planQ().Ship.Parts
	parts[1].On = []string{"deck"}
	parts[2].Name = "KEEL"
	checks(t, "an error behind", built(parts...), 1, 1, api.ErrNone)
	parts[1].On = []string{"tank1"}
	checks(t, "on itself", built(parts...), 1, 1, api.ErrNone)
	parts[1].On = []string{"", "keel", "keel"}
	checks(t, "on no name", built(parts...), 1, 1, api.ErrNone)
	parts[1].On = []string{}
	checks(t, "an error behind", built(parts...), 1, 2, api.ErrForm)
}

func TestCheckFrames(t *testing.T) {
	low := part("low", 1, 10, 19, 1, 1)
	for _, c := range []struct {
		first, last int
		e           api.Errno
	}{{0, 9, api.ErrDown}, {0, 10, api.OK}, {19, 40, api.OK}, {20, 40, api.ErrDown}, {12, 12, api.OK}, {0, 40, api.OK}} {
		x := part("x", 1, c.first, c.last, 1, 1, "low")
		checks(t, c, built(low, x), 1, 1, c.e)
		checks(t, c, with(built(low), add(0, x)), 2, 0, c.e)
		checks(t, c, with(built(low, part("old", 1, 15, 15, 1, 1, "low")), swap(0, "old", x)), 2, 0, c.e)
		on := part("on", 1, 15, 15, 1, 1, "old")
		on.First, on.Last = c.first, c.last
		old := part("old", 1, 0, 40, 1, 1)
		checks(t, c, with(built(old, on), swap(0, "old", low)), 2, 0, c.e)
	}
}

func TestCheckChangesInOrder(t *testing.T) {
	filled := take(7, "none")
	filled.Part = part("x", 1, 0, 0, 1, 1)
	for i, c := range []struct {
		change api.HuChange
		e      api.Errno
	}{
		{api.HuChange{Day: 6, What: 4}, api.ErrRange},
		{api.HuChange{Day: 40001, What: 4}, api.ErrRange},
		{api.HuChange{Day: -1, What: api.HuAdd, Name: "a"}, api.ErrRange},
		{api.HuChange{Day: least}, api.ErrRange},
		{api.HuChange{Day: greatest}, api.ErrRange},
		{api.HuChange{Day: 7, What: 0, Name: "deck"}, api.ErrForm},
		{api.HuChange{Day: 7, What: 4, Name: "deck"}, api.ErrForm},
		{api.HuChange{Day: 7, What: -1}, api.ErrForm},
		{api.HuChange{Day: 7, What: least}, api.ErrForm},
		{api.HuChange{Day: 7, What: greatest}, api.ErrForm},
		{api.HuChange{Day: 7, What: 1<<32 + api.HuTake, Name: "deck"}, api.ErrForm},
		{api.HuChange{Day: 7, What: api.HuAdd, Name: "a"}, api.ErrForm},
		{api.HuChange{Day: 7, What: api.HuAdd, Name: "deck", Part: part("x", 1, 0, 0, 1, 1)}, api.ErrForm},
		{api.HuChange{Day: 7, What: api.HuAdd, Part: part("deck", 1, 0, 0, 1, 1)}, api.ErrTwice},
		{api.HuChange{Day: 7, What: api.HuAdd, Part: part("x", 1, 0, 0, 1, 1, "deck")}, api.ErrDown},
		{api.HuChange{Day: 7, What: api.HuAdd, Part: part("x", 1, 24, 25, 1, 1, "deck", "tank1")}, api.ErrDown},
		{api.HuChange{Day: 7, What: api.HuAdd, Part: part("x", 1, 24, 25, 1, 1, "deck", "keel")}, api.OK},
		{filled, api.ErrForm},
		{api.HuChange{Day: 7, What: api.HuTake, Name: "none", Part: api.HuPart{Name: "x"}}, api.ErrForm},
		{api.HuChange{Day: 7, What: api.HuTake, Name: "none", Part: api.HuPart{Kind: 1}}, api.ErrForm},
		{api.HuChange{Day: 7, What: api.HuTake, Name: "none", Part: api.HuPart{First: -1}}, api.ErrForm},
		{api.HuChange{Day: 7, What: api.HuTake, Name: "none", Part: api.HuPart{Last: 1}}, api.ErrForm},
		{api.HuChange{Day: 7, What: api.HuTake, Name: "none", Part: api.HuPart{On: []string{""}}}, api.ErrForm},
		{api.HuChange{Day: 7, What: api.HuTake, Name: "none", Part: api.HuPart{Weight: api.Span{Lo: 1}}}, api.ErrForm},
		{api.HuChange{Day: 7, What: api.HuTake, Name: "none", Part: api.HuPart{Weight: api.Span{Hi: 1}}}, api.ErrForm},
		{api.HuChange{Day: 7, What: api.HuTake, Name: "deck", Part: api.HuPart{On: []string{}}}, api.OK},
		{take(7, "none"), api.ErrNone},
		{take(7, ""), api.ErrNone},
		{take(7, "keel"), api.ErrDown},
		{take(7, "tank1"), api.ErrDown},
		{take(7, "deck"), api.OK},
		{take(40000, "deck"), api.OK},
		{swap(7, "none", api.HuPart{}), api.ErrNone},
		{swap(7, "", api.HuPart{}), api.ErrNone},
		{swap(7, "tank1", api.HuPart{}), api.ErrForm},
		{swap(7, "tank1", part("keel", 0, 0, 0, 0, 0)), api.ErrTwice},
		{swap(7, "tank1", part("deck", 0, 0, 0, 0, 0)), api.ErrTwice},
		{swap(7, "tank1", part("tank1", 0, 0, 0, 0, 0)), api.ErrRange},
		{swap(7, "tank1", part("tank1", 1, 25, 30, 1, 1, "tank1")), api.ErrNone},
		{swap(7, "tank1", part("x", 1, 25, 30, 1, 1, "deck")), api.ErrNone},
		{swap(7, "tank1", part("x", 1, 25, 30, 1, 1, "keel", "keel")), api.ErrTwice},
		{swap(7, "tank1", part("x", 1, 25, 30, 1, 1, "keel")), api.ErrDown},
		{swap(7, "tank1", part("x", 1, 0, 4, 1, 1)), api.ErrDown},
		{swap(7, "tank1", part("tank1", 1, 0, 5, 1, 1)), api.OK},
		{swap(7, "tank1", part("x", 1, 24, 24, 1, 1)), api.OK},
		{swap(7, "keel", part("x", 1, 24, 24, 1, 1)), api.ErrDown},
		{swap(7, "deck", part("x", 1, 39, 40, 1, 1)), api.OK},
	} {
		checks(t, i, with(planQ(), swap(7, "keel", part("keel", 1, 0, 40, 1, 1)), c.change), 2, 1, c.e)
		// The first change with an error decides.
		at, e := 1, c.e
		if e == api.OK {
			at, e = 2, api.ErrRange
		}
		checks(t, i, with(planQ(), swap(7, "keel", part("keel", 1, 0, 40, 1, 1)), c.change, api.HuChange{Day: -1}), 2, at, e)
	}
}

func TestCheckShipByThen(t *testing.T) {
	x := part("x", 1, 15, 15, 1, 1, "tank1")
	for i, c := range []struct {
		changes []api.HuChange
		at      int
		e       api.Errno
	}{
		{[]api.HuChange{take(0, "deck"), take(0, "tank1"), take(0, "keel")}, 0, api.OK},
		{[]api.HuChange{take(0, "deck"), take(0, "deck")}, 1, api.ErrNone},
		{[]api.HuChange{take(0, "deck"), add(0, part("deck", 1, 0, 0, 1, 1))}, 0, api.OK},
		{[]api.HuChange{add(0, x), add(1, x)}, 1, api.ErrTwice},
		{[]api.HuChange{add(0, x), add(1, part("y", 1, 15, 15, 1, 1, "x"))}, 0, api.OK},
		{[]api.HuChange{add(0, x), take(1, "deck"), take(1, "tank1")}, 2, api.ErrDown},
		{[]api.HuChange{swap(0, "tank1", part("x", 1, 10, 10, 1, 1)), add(0, x)}, 1, api.ErrTwice},
		{[]api.HuChange{swap(0, "tank1", part("y", 1, 10, 10, 1, 1)), add(0, x)}, 1, api.ErrNone},
		{[]api.HuChange{swap(0, "tank1", part("y", 1, 10, 10, 1, 1)), take(0, "y")}, 1, api.ErrDown},
		{[]api.HuChange{swap(0, "tank1", part("y", 1, 10, 10, 1, 1)), take(0, "tank1")}, 1, api.ErrNone},
		{[]api.HuChange{swap(0, "tank1", part("y", 1, 10, 10, 1, 1)), swap(0, "y", part("tank1", 1, 4, 4, 1, 1))}, 1, api.ErrDown},
		{[]api.HuChange{swap(0, "tank1", part("y", 1, 10, 10, 1, 1)), swap(0, "y", part("tank1", 1, 5, 5, 1, 1))}, 0, api.OK},
		{[]api.HuChange{swap(0, "deck", part("y", 1, 0, 40, 1, 1)), take(0, "tank1")}, 0, api.OK},
		{[]api.HuChange{take(5, "deck"), take(5, "tank1"), take(4, "keel")}, 2, api.ErrRange},
	} {
		checks(t, i, with(planQ(), c.changes...), 2, c.at, c.e)
	}
}

// TestPlanErrorFirst: all functions with plans return their errors before those of other arguments.
func TestPlanErrorFirst(t *testing.T) {
	bad := built(api.HuPart{})
	worse := built(part("a", 1, 1, 0, 1, 1))
	sights := make([]api.HuSight, 13)
	for i, e := range []api.Errno{
		second(hull.Ship(bad, -1)), second(hull.Weigh(bad, -1, -1, -1)), second(hull.Above(bad, -1, "")),
		second(hull.Differ(bad, worse, -1)), second(hull.Differ(planQ(), bad, -1)), second(hull.Write(bad)),
		second(hull.Agree([]api.HuPlan{planQ(), bad, worse}, -1, sights)),
		third(hull.Sure([]api.HuPlan{planQ(), bad, worse}, -1, sights)),
		fourth(hull.Ask([]api.HuPlan{planQ(), bad, worse}, -1, sights)),
	} {
		if e != api.ErrForm {
			t.Errorf("%d: error %d", i, e)
		}
	}
	if _, e := hull.Differ(worse, bad, -1); e != api.ErrArg {
		t.Errorf("Differ: error %d", e)
	}
}

func second[T any](_ T, e api.Errno) api.Errno { return e }

func third[T, U any](_ T, _ U, e api.Errno) api.Errno { return e }

func fourth[T, U, V any](_ T, _ U, _ V, e api.Errno) api.Errno { return e }
