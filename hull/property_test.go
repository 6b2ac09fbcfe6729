package hull_test

import (
	"math/rand/v2"
	"reflect"
	"slices"
	"testing"

	"orlop/api"
	"orlop/hull"
)

// subset reports whether all of a list is in another one.
func subset(a, b []string) bool {
	return !slices.ContainsFunc(a, func(s string) bool { return !slices.Contains(b, s) })
}

// TestSurveyed is P1.7.
func TestSurveyed(t *testing.T) {
	many(t, 300, func(r *rand.Rand) {
		plans := randomPlans(r)
		day := r.IntN(40)
		k := r.IntN(len(plans))
		s := mustShip(t, plans[k], day)
		sights := trueSights(r, s, api.MaxHuSights)
		l, e := hull.Agree(plans, day, sights)
		if e != api.OK || !slices.Contains(l, k) {
			t.Errorf("the plan %d does not agree: %v, %d", k, l, e)
		}
		all, some, e := hull.Sure(plans, day, sights)
		if e != api.OK || !subset(all, names(s)) || !subset(names(s), some) {
			t.Errorf("%v: Sure = %v, %v, %d", names(s), all, some, e)
		}
		for i, p := range plans {
			is := true
			s := mustShip(t, p, day)
			for _, w := range sights {
				is = is && found(s, w.Name, w.Frame) == w.Kind
			}
			if is != slices.Contains(l, i) {
				t.Errorf("%v: the plan %d agrees: %v", l, i, is)
			}
		}
	})
}

// leaves is how many plans agree if a look finds a kind, too.
func leaves(plans []api.HuPlan, day int, sights []api.HuSight, name string, frame, kind int) int {
	l, _ := hull.Agree(plans, day, append(slices.Clone(sights), sight(name, frame, kind)))
	return len(l)
}

// mostLeft is the most plans that a look can leave.
func mostLeft(plans []api.HuPlan, day int, sights []api.HuSight, name string, frame int) int {
	n := 0
	for kind := range api.HuPipe + 1 {
		n = max(n, leaves(plans, day, sights, name, frame, kind))
	}
	return n
}

// TestAsked is P1.8, and which look is asked for of several.
func TestAsked(t *testing.T) {
	asked := 0
	many(t, 60, func(r *rand.Rand) {
		plans := randomPlans(r)
		day := r.IntN(40)
		sights := trueSights(r, mustShip(t, plans[0], day), 2)
		l, _ := hull.Agree(plans, day, sights)
		_, some, _ := hull.Sure(plans, day, sights)
		name, frame, left, e := hull.Ask(plans, day, sights)
		wantName, wantFrame, want := "", 0, len(l)
		for _, n := range some {
			for f := range api.MaxHuFrames + 1 {
				if m := mostLeft(plans, day, sights, n, f); m < want {
					wantName, wantFrame, want = n, f, m
				}
			}
		}
		if want == len(l) {
			if e != api.ErrNone || name != "" || frame != 0 || left != 0 {
				t.Errorf("Ask = %s, %d, %d, %d", name, frame, left, e)
			}
			return
		}
		asked++
		if e != api.OK || name != wantName || frame != wantFrame || left != want {
			t.Errorf("Ask = %s, %d, %d, %d; want %s, %d, %d", name, frame, left, e, wantName, wantFrame, want)
		}
	})
	if asked < 10 {
		t.Errorf("only %d times there was something to ask for", asked)
	}
}

// TestWeights is P1.9.
func TestWeights(t *testing.T) {
	many(t, 300, func(r *rand.Rand) {
		p := randomChanges(r, randomShip(r))
		day := r.IntN(40)
		var sum api.Span
		for _, x := range mustShip(t, p, day).Parts {
			sum.Lo += x.Weight.Lo
			sum.Hi += x.Weight.Hi
		}
		if w, e := hull.Weigh(p, day, 0, api.MaxHuFrames); w != sum || e != api.OK {
			t.Errorf("Weigh = %v, %d; want %v", w, e, sum)
		}
		first := r.IntN(40)
		last := first + 1 + r.IntN(40-first)
		split := first + r.IntN(last-first)
		a, _ := hull.Weigh(p, day, first, split)
		b, _ := hull.Weigh(p, day, split+1, last)
		both, _ := hull.Weigh(p, day, first, last)
		if a.Hi+b.Hi < both.Hi || a.Lo+b.Lo > both.Lo {
			t.Errorf("%v and %v, together %v", a, b, both)
		}
	})
}

// TestStanding is P1.10.
func TestStanding(t *testing.T) {
	many(t, 300, func(r *rand.Rand) {
		p := built(mustShip(t, randomChanges(r, randomShip(r)), api.MaxDay).Parts...)
		list := names(p.Ship)
		for i, x := range p.Ship.Parts {
			above, e := hull.Above(p, 0, x.Name)
			if e != api.OK || !subset(above, list[i+1:]) {
				t.Errorf("above %s: %v, %d", x.Name, above, e)
			}
			for _, y := range above {
				if further, _ := hull.Above(p, 0, y); !subset(further, above) {
					t.Errorf("above %s: %v; above %s: %v", x.Name, above, y, further)
				}
			}
			for _, y := range p.Ship.Parts {
				if slices.Contains(y.On, x.Name) && !slices.Contains(above, y.Name) {
					t.Errorf("%s stands on %s, but is not above it", y.Name, x.Name)
				}
			}
			want := api.OK
			if len(above) > 0 {
				want = api.ErrDown
			}
			if _, _, e := hull.Check(with(p, take(0, x.Name))); e != want {
				t.Errorf("%s is taken away, with %v above: %d", x.Name, above, e)
			}
		}
	})
}

// TestChangeByChange is P1.11, and that there is a ship after each change.
func TestChangeByChange(t *testing.T) {
	many(t, 300, func(r *rand.Rand) {
		p := randomChanges(r, randomShip(r))
		day := r.IntN(40)
		n := 0
		for n < len(p.Changes) && p.Changes[n].Day <= day {
			n++
		}
		s := mustShip(t, p, day)
		checks(t, "the ship on a day", api.HuPlan{Ship: s}, 0, 0, api.OK)
		if u := mustShip(t, with(p, p.Changes[:n]...), api.MaxDay); !sameShips(s, u) {
			t.Errorf("on the day %d: %v; %v", day, s, u)
		}
		later := day + r.IntN(40)
		all := mustShip(t, p, later)
		rest := mustShip(t, api.HuPlan{Ship: s, Changes: p.Changes[n:]}, later)
		if !sameShips(all, rest) {
			t.Errorf("on the day %d: %v; from the day %d on: %v", later, all, day, rest)
		}
	})
}

// TestDifferences is P1.12.
func TestDifferences(t *testing.T) {
	many(t, 300, func(r *rand.Rand) {
		plans := randomPlans(r)
		p, q := plans[0], plans[len(plans)-1]
		day := r.IntN(40)
		l, e := hull.Differ(p, q, day)
		m, f := hull.Differ(q, p, day)
		if e != api.OK || f != api.OK || !slices.Equal(l, m) {
			t.Errorf("Differ = %v, %d; %v, %d", l, e, m, f)
		}
		a, b := mustShip(t, p, day).Parts, mustShip(t, q, day).Parts
		in := func(x api.HuPart, l []api.HuPart) bool {
			return slices.ContainsFunc(l, func(y api.HuPart) bool { return reflect.DeepEqual(copyPart(x), copyPart(y)) })
		}
		var want []string
		for _, x := range a {
			if !in(x, b) {
				want = append(want, x.Name)
			}
		}
		for _, x := range b {
			if !in(x, a) {
				want = append(want, x.Name)
			}
		}
		slices.Sort(want)
		if want = slices.Compact(want); !slices.Equal(l, want) {
			t.Errorf("Differ = %v; want %v", l, want)
		}
	})
}

// TestAnyOrder is P1.13.
func TestAnyOrder(t *testing.T) {
	many(t, 300, func(r *rand.Rand) {
		plans := randomPlans(r)
		day := r.IntN(40)
		sights := trueSights(r, mustShip(t, plans[0], day), api.MaxHuSights/2)
		l, _ := hull.Agree(plans, day, sights)
		twice := append(slices.Clone(sights), sights...)
		r.Shuffle(len(twice), func(i, j int) { twice[i], twice[j] = twice[j], twice[i] })
		if m, e := hull.Agree(plans, day, twice); e != api.OK || !slices.Equal(l, m) {
			t.Errorf("Agree = %v; with all sights twice %v, %d", l, m, e)
		}
		further := sight(pool[r.IntN(len(pool))], r.IntN(41), r.IntN(6))
		m, e := hull.Agree(plans, day, append(slices.Clone(sights), further))
		if e != api.OK {
			t.Errorf("with a further sight: %d", e)
		}
		for _, i := range m {
			if !slices.Contains(l, i) {
				t.Errorf("Agree = %v; with a further sight %v", l, m)
			}
		}
	})
}

// callAll calls all functions with plans, which have to be at least two.
func callAll(plans []api.HuPlan, day int, sights []api.HuSight, name string, first, last int) {
	for _, p := range plans {
		hull.Check(p)
		hull.Ship(p, day)
		hull.Weigh(p, day, first, last)
		hull.Above(p, day, name)
		hull.Write(p)
	}
	hull.Differ(plans[0], plans[1], day)
	hull.Agree(plans, day, sights)
	hull.Sure(plans, day, sights)
	hull.Ask(plans, day, sights)
}

// TestArgumentsStay is P1.15: no argument is modified.
func TestArgumentsStay(t *testing.T) {
	many(t, 100, func(r *rand.Rand) {
		plans := []api.HuPlan{randomChanges(r, randomShip(r)), planP(), largest()}
		sights := []api.HuSight{sight("keel", 9, 2), sight("a", 0, 0)}
		var copies []api.HuPlan
		for _, p := range plans {
			copies = append(copies, copyOf(p))
		}
		was := slices.Clone(sights)
		callAll(plans, 200, sights, "keel", 0, 40)
		callAll(plans, 200, nil, "keel", 0, 40)
		for i, p := range plans {
			if !samePlans(p, copies[i]) {
				t.Errorf("the plan %v was %v", p, copies[i])
			}
		}
		if !slices.Equal(sights, was) {
			t.Errorf("the sights are %v", sights)
		}
	})
}

// scribble writes over the lists of a ship, and behind their ends, and returns whether that showed anywhere else in it.
func scribble(s api.HuShip) bool {
	shown := false
	for i := range s.Parts {
		was := copyOf(api.HuPlan{Ship: s})
		x := &s.Parts[i]
		for j := range x.On {
			x.On[j] = "scribble"
		}
		_ = append(x.On, "scribble")
		was.Ship.Parts[i].On = copyPart(*x).On
		shown = shown || !samePlans(was, api.HuPlan{Ship: s})
	}
	return shown
}

// TestNewMemory is P1.15: results share no memory with arguments, nor do their lists with each other.
func TestNewMemory(t *testing.T) {
	many(t, 100, func(r *rand.Rand) {
		for _, p := range []api.HuPlan{randomChanges(r, randomShip(r)), planP(), planQ(), largest()} {
			was := copyOf(p)
			for _, day := range []int{0, 10, 150, api.MaxDay} {
				if scribble(mustShip(t, p, day)) {
					t.Errorf("two lists of the ship on the day %d share memory", day)
				}
			}
			text, _ := hull.Write(p)
			read, _ := hull.Read(text)
			if scribble(read.Ship) {
				t.Error("two lists of a plan that was read share memory")
			}
			for i := range read.Changes {
				before := copyOf(read)
				x := read.Changes[i].Part.On
				_ = append(x, "scribble")
				if !samePlans(before, read) {
					t.Error("a list of a change shares memory with another one")
				}
			}
			if !samePlans(p, was) {
				t.Errorf("a result shares memory with the plan %v", was)
			}
		}
		all, some, _ := hull.Sure([]api.HuPlan{planQ()}, 0, nil)
		for i := range all {
			all[i] = "scribble"
		}
		if slices.Contains(some, "scribble") {
			t.Error("the two lists of Sure share memory")
		}
	})
}

// TestAnyArguments is P1.15 and P1: no arguments lead to a panic, and results with an error are zero.
func TestAnyArguments(t *testing.T) {
	numbers := []int{least, least + 1, -1 << 32, -1, 0, 1, 2, 3, 5, 6, 40, 41, 40000, 40001, 1 << 32, greatest - 1, greatest}
	strings := []string{"", "a", "b", "keel", "part", "Ä", "\x00", "\xff\xfe", "abcdefghijklmnopq"}
	many(t, 2000, func(r *rand.Rand) {
		number := func() int { return numbers[r.IntN(len(numbers))] }
		name := func() string { return strings[r.IntN(len(strings))] }
		wild := func() api.HuPart {
			return part(name(), number(), number(), number(), number(), number(), name(), name())
		}
		p, q := planP(), randomChanges(r, randomShip(r))
		p.Ship.Parts = append(p.Ship.Parts, wild())
		q.Changes = append(q.Changes, api.HuChange{What: number(), Day: number(), Name: name(), Part: wild()})
		sights := []api.HuSight{sight(name(), number(), number())}
		callAll([]api.HuPlan{p, q}, number(), sights, name(), number(), number())
		callAll([]api.HuPlan{q, planP()}, number(), nil, name(), number(), number())
		callAll([]api.HuPlan{planQ(), planP()}, number(), sights, name(), number(), number())
		hull.Read(name() + " " + name() + "\n")
	})
}
