package hull_test

import (
	"slices"
	"testing"

	"orlop/api"
	"orlop/hull"
)

func sight(name string, frame, kind int) api.HuSight {
	return api.HuSight{Name: name, Frame: frame, Kind: kind}
}

// one is a plan of one part.
func one(name string, kind, first, last int) api.HuPlan {
	return built(part(name, kind, first, last, 1, 1))
}

// agrees checks Agree.
func agrees(t *testing.T, what any, plans []api.HuPlan, day int, sights []api.HuSight, want []int, e api.Errno) {
	t.Helper()
	l, f := hull.Agree(plans, day, sights)
	if !slices.Equal(l, want) || f != e {
		t.Errorf("%v: Agree = %v, %d", what, l, f)
	}
}

func TestAgree(t *testing.T) {
	both := []api.HuPlan{planP(), planQ()}
	agrees(t, "tank1 at 15 is a tank", both, 200, []api.HuSight{sight("tank1", 15, api.HuTank)}, []int{1}, api.OK)
	agrees(t, "pipe1 at 5 is not there", both, 200, []api.HuSight{sight("pipe1", 5, 0)}, []int{0, 1}, api.OK)
	agrees(t, "nothing was seen", both, 200, nil, []int{0, 1}, api.OK)
	agrees(t, "on the day before", both, 199, []api.HuSight{sight("tank1", 15, api.HuTank)}, []int{0, 1}, api.OK)
	agrees(t, "both sights", both, 200, []api.HuSight{sight("deck", 5, api.HuPlate), sight("hold1", 20, 1)}, []int{0}, api.OK)
	agrees(t, "no plan", both, 200, []api.HuSight{sight("tank1", 15, api.HuTank), sight("hold1", 20, 1)}, nil, api.OK)
	for _, c := range []struct {
		w    api.HuSight
		true bool
	}{
		{sight("a", 10, 3), true}, {sight("a", 20, 3), true}, {sight("a", 9, 3), false}, {sight("a", 21, 3), false},
		{sight("a", 10, 0), false}, {sight("a", 20, 0), false}, {sight("a", 9, 0), true}, {sight("a", 21, 0), true},
		{sight("a", 15, 2), false}, {sight("a", 0, 0), true}, {sight("a", 40, 0), true}, {sight("b", 15, 0), true}, {sight("b", 15, 3), false},
	} {
		var want []int
		if c.true {
			want = []int{0}
		}
		agrees(t, c.w, []api.HuPlan{one("a", 3, 10, 20)}, 0, []api.HuSight{c.w}, want, api.OK)
	}
	six := []api.HuPlan{one("a", 1, 0, 40), one("a", 2, 0, 40), one("a", 1, 0, 40), one("a", 3, 0, 40), one("a", 1, 0, 40), one("a", 4, 0, 40)}
	agrees(t, "six plans", six, 0, []api.HuSight{sight("a", 7, 1)}, []int{0, 2, 4}, api.OK)
}

func TestSurveyErrors(t *testing.T) {
	both := []api.HuPlan{planP(), planQ()}
	good := sight("none", 0, 0)
	twelve := slices.Repeat([]api.HuSight{good}, 12)
	for i, c := range []struct {
		plans  []api.HuPlan
		day    int
		sights []api.HuSight
		e      api.Errno
	}{
		{nil, 0, nil, api.ErrLong},
		{nil, -1, make([]api.HuSight, 13), api.ErrLong},
		{make([]api.HuPlan, 7), -1, nil, api.ErrLong},
		{slices.Repeat([]api.HuPlan{built(api.HuPart{})}, 7), 0, nil, api.ErrLong},
		{slices.Repeat(both, 3), 0, twelve, api.OK},
		{both, -1, twelve, api.ErrRange},
		{both, 0, append(twelve, good), api.ErrLong},
		{both, 0, make([]api.HuSight, 13), api.ErrLong},
		{both, 0, []api.HuSight{good, sight("", -1, -1), sight("a", -1, 0)}, api.ErrForm},
		{both, 0, []api.HuSight{good, sight("a", -1, 0), sight("", 0, 0)}, api.ErrRange},
		{both, 0, []api.HuSight{sight("A", 41, 6)}, api.ErrForm},
		{both, 0, []api.HuSight{sight("a", 41, 0)}, api.ErrRange},
		{both, 0, []api.HuSight{sight("a", -1, 0)}, api.ErrRange},
		{both, 0, []api.HuSight{sight("a", 0, -1)}, api.ErrRange},
		{both, 0, []api.HuSight{sight("a", 0, 6)}, api.ErrRange},
		{both, 0, []api.HuSight{sight("a", greatest, 0)}, api.ErrRange},
		{both, 0, []api.HuSight{sight("a", least, 0)}, api.ErrRange},
		{both, 0, []api.HuSight{sight("a", 0, greatest)}, api.ErrRange},
		{both, 0, []api.HuSight{sight("a", 0, least)}, api.ErrRange},
		{both, 0, []api.HuSight{sight("a", 40, 0)}, api.OK},
		{both, 0, []api.HuSight{sight("keel", 0, 2)}, api.OK},
	} {
		l, e := hull.Agree(c.plans, c.day, c.sights)
		all, some, f := hull.Sure(c.plans, c.day, c.sights)
		if e != c.e || f != c.e {
			t.Errorf("%d: Agree has the error %d, Sure %d", i, e, f)
		}
		if c.e == api.OK {
			continue
		}
		name, frame, left, g := hull.Ask(c.plans, c.day, c.sights)
		if l != nil || all != nil || some != nil || name != "" || frame != 0 || left != 0 || g != c.e {
			t.Errorf("%d: %v; %v, %v; %s, %d, %d, %d", i, l, all, some, name, frame, left, g)
		}
	}
}

func TestSure(t *testing.T) {
	both := []api.HuPlan{planP(), planQ()}
	for i, c := range []struct {
		plans     []api.HuPlan
		day       int
		sights    []api.HuSight
		all, some []string
		e         api.Errno
	}{
		{both, 200, nil, []string{"deck", "keel"}, []string{"deck", "hold1", "keel", "pipe1", "tank1"}, api.OK},
		{both, 100, nil, []string{"deck", "keel", "tank1"}, []string{"deck", "keel", "pipe1", "tank1"}, api.OK},
		{both, 200, []api.HuSight{sight("tank1", 15, 4)}, []string{"deck", "keel", "tank1"}, []string{"deck", "keel", "tank1"}, api.OK},
		{both, 200, []api.HuSight{sight("keel", 15, 0)}, nil, nil, api.ErrDown},
		{[]api.HuPlan{{}, {}}, 0, nil, nil, nil, api.OK},
		{[]api.HuPlan{one("b", 1, 0, 0), one("a", 1, 0, 0), {}}, 0, nil, nil, []string{"a", "b"}, api.OK},
		// A part of the same name is there by both, however it differs.
		{[]api.HuPlan{one("b", 1, 0, 0), one("b", 2, 9, 9)}, 0, nil, []string{"b"}, []string{"b"}, api.OK},
	} {
		all, some, e := hull.Sure(c.plans, c.day, c.sights)
		if !slices.Equal(all, c.all) || !slices.Equal(some, c.some) || e != c.e {
			t.Errorf("%d: Sure = %v, %v, %d", i, all, some, e)
		}
	}
}

func TestAsk(t *testing.T) {
	both := []api.HuPlan{planP(), planQ()}
	kinds := []api.HuPlan{one("a", 1, 3, 9), one("a", 2, 3, 9), one("a", 3, 3, 9), one("a", 4, 3, 9), one("a", 5, 3, 9), {}}
	for i, c := range []struct {
		plans       []api.HuPlan
		day         int
		sights      []api.HuSight
		name        string
		frame, left int
		e           api.Errno
	}{
		{both, 200, nil, "hold1", 10, 1, api.OK},
		{both[1:], 200, nil, "", 0, 0, api.ErrNone},
		{both, 99, nil, "", 0, 0, api.ErrNone},
		{both, 200, []api.HuSight{sight("tank1", 15, 4)}, "", 0, 0, api.ErrNone},
		{both, 200, []api.HuSight{sight("tank1", 15, 5)}, "", 0, 0, api.ErrDown},
		{[]api.HuPlan{{}, {}}, 0, nil, "", 0, 0, api.ErrNone},
		// Parts that differ in what no look finds.
		{[]api.HuPlan{built(part("a", 1, 0, 0, 1, 1)), built(part("a", 1, 0, 0, 2, 2))}, 0, nil, "", 0, 0, api.ErrNone},
		{kinds, 0, nil, "a", 3, 1, api.OK},
		{append(slices.Clone(kinds[:5]), kinds[4]), 0, nil, "a", 3, 2, api.OK},
		{[]api.HuPlan{one("b", 1, 0, 0), one("b", 1, 0, 40)}, 0, nil, "b", 1, 1, api.OK},
		{[]api.HuPlan{one("b", 1, 0, 39), one("b", 1, 0, 40)}, 0, nil, "b", 40, 1, api.OK},
		{[]api.HuPlan{one("b", 1, 1, 40), one("b", 1, 0, 40)}, 0, nil, "b", 0, 1, api.OK},
		// The name that is first, and not the plan or the frame.
		{[]api.HuPlan{one("b", 1, 0, 40), one("a", 1, 7, 9)}, 0, nil, "a", 7, 1, api.OK},
		// At the frame 5 there are three and one, at 6 two and two.
		{[]api.HuPlan{one("a", 1, 5, 9), one("a", 1, 6, 9), one("a", 1, 9, 9), one("a", 1, 9, 10)}, 0, nil, "a", 6, 2, api.OK},
		// A worse look at the first name, a better one at a later one.
		{[]api.HuPlan{one("a", 1, 5, 9), one("b", 1, 5, 9), one("b", 2, 5, 9), {}}, 0, nil, "b", 5, 2, api.OK},
		// Only the plans that agree count.
		{kinds, 0, []api.HuSight{sight("a", 9, 1)}, "", 0, 0, api.ErrNone},
	} {
		name, frame, left, e := hull.Ask(c.plans, c.day, c.sights)
		if name != c.name || frame != c.frame || left != c.left || e != c.e {
			t.Errorf("%d: Ask = %s, %d, %d, %d", i, name, frame, left, e)
		}
	}
}
