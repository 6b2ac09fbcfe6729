package hull_test

import (
	"math/rand/v2"
	"reflect"
	"slices"
	"testing"

	"orlop/api"
	"orlop/hull"
)

const (
	least    = -1 << 63
	greatest = 1<<63 - 1
)

// part is a part.
func part(name string, kind, first, last, lo, hi int, on ...string) api.HuPart {
	return api.HuPart{Name: name, Kind: kind, First: first, Last: last, On: on, Weight: api.Span{Lo: lo, Hi: hi}}
}

func add(day int, x api.HuPart) api.HuChange {
	return api.HuChange{What: api.HuAdd, Day: day, Part: x}
}

func take(day int, name string) api.HuChange {
	return api.HuChange{What: api.HuTake, Day: day, Name: name}
}

func swap(day int, name string, x api.HuPart) api.HuChange {
	return api.HuChange{What: api.HuSwap, Day: day, Name: name, Part: x}
}

// built is the plan of a ship with these parts, without changes.
func built(parts ...api.HuPart) api.HuPlan {
	return api.HuPlan{Ship: api.HuShip{Parts: parts}}
}

// with is a copy of a plan with other changes.
func with(p api.HuPlan, changes ...api.HuChange) api.HuPlan {
	p = copyOf(p)
	p.Changes = changes
	return p
}

// planQ and planP are Q and P of the chapter's examples.
func planQ() api.HuPlan {
	return built(
		part("keel", api.HuBeam, 0, 40, 9000, 10000),
		part("tank1", api.HuTank, 10, 19, 2000, 2500, "keel"),
		part("deck", api.HuPlate, 5, 24, 3000, 3000, "tank1", "keel"),
	)
}

func planP() api.HuPlan {
	return with(planQ(),
		add(100, part("pipe1", api.HuPipe, 12, 30, 100, 200, "tank1")),
		swap(200, "tank1", part("hold1", api.HuPlate, 10, 29, 800, 900, "keel")),
	)
}

// full is a plan of n parts, of which each stands on all parts before it.
func full(n int) api.HuPlan {
	var names []string
	var p api.HuPlan
	for i := range n {
		name := "abcdefghijklmno" + string(rune('a'+i))
		p.Ship.Parts = append(p.Ship.Parts, part(name, api.HuEngine, 10, 40, 1000000, 1000000, slices.Clone(names)...))
		names = append(names, name)
	}
	return p
}

func copyPart(x api.HuPart) api.HuPart {
	x.On = append([]string(nil), x.On...)
	return x
}

// copyOf is a copy of a plan that shares no memory with it; its empty lists are nil.
func copyOf(p api.HuPlan) api.HuPlan {
	var q api.HuPlan
	for _, x := range p.Ship.Parts {
		q.Ship.Parts = append(q.Ship.Parts, copyPart(x))
	}
	for _, c := range p.Changes {
		c.Part = copyPart(c.Part)
		q.Changes = append(q.Changes, c)
	}
	return q
}

func samePlans(p, q api.HuPlan) bool { return reflect.DeepEqual(copyOf(p), copyOf(q)) }

func sameShips(a, b api.HuShip) bool {
	return samePlans(api.HuPlan{Ship: a}, api.HuPlan{Ship: b})
}

func names(s api.HuShip) []string {
	var l []string
	for _, x := range s.Parts {
		l = append(l, x.Name)
	}
	return l
}

// found is what a look finds in a ship.
func found(s api.HuShip, name string, frame int) int {
	for _, x := range s.Parts {
		if x.Name == name && x.First <= frame && frame <= x.Last {
			return x.Kind
		}
	}
	return 0
}

func mustShip(t *testing.T, p api.HuPlan, day int) api.HuShip {
	t.Helper()
	s, e := hull.Ship(p, day)
	if e != api.OK {
		t.Fatalf("Ship(%v, %d) has the error %d", p, day, e)
	}
	return s
}

// pool is the names of random plans; they are few, so that plans share some.
var pool = []string{"a", "b1", "c", "d", "e9e", "f", "g", "h", "j", "k", "m", "n", "o", "abcdefghijklmnop"}

// randomPart is a part that stands on some of the parts before it; it has no error but perhaps a name that is there.
func randomPart(r *rand.Rand, before []api.HuPart) api.HuPart {
	x := api.HuPart{Name: pool[r.IntN(len(pool))], Kind: 1 + r.IntN(5)}
	x.First = r.IntN(41)
	x.Last = x.First + r.IntN(41-x.First)
	x.Weight.Lo = 1 + r.IntN(2000)
	x.Weight.Hi = x.Weight.Lo + r.IntN(2000)
	for _, y := range before {
		if r.IntN(2) == 0 && x.First <= y.Last && y.First <= x.Last {
			x.On = append(x.On, y.Name)
		}
	}
	r.Shuffle(len(x.On), func(i, j int) { x.On[i], x.On[j] = x.On[j], x.On[i] })
	return x
}

func randomShip(r *rand.Rand) api.HuPlan {
	var p api.HuPlan
	for range r.IntN(api.MaxHuParts + 4) {
		q := copyOf(p)
		q.Ship.Parts = append(q.Ship.Parts, randomPart(r, p.Ship.Parts))
		if _, _, e := hull.Check(q); e == api.OK {
			p = q
		}
	}
	return p
}

// randomChange is a change of a ship, on a day; it may have an error.
func randomChange(r *rand.Rand, s api.HuShip, day int) api.HuChange {
	n := len(s.Parts)
	if n == 0 || r.IntN(3) == 0 {
		return add(day, randomPart(r, s.Parts))
	}
	at := r.IntN(n)
	if r.IntN(2) == 0 {
		return take(day, s.Parts[at].Name)
	}
	return swap(day, s.Parts[at].Name, randomPart(r, s.Parts[:at]))
}

// randomChanges is a plan with the ship of p, and some changes that have no error.
func randomChanges(r *rand.Rand, p api.HuPlan) api.HuPlan {
	p = with(p)
	for range r.IntN(20) {
		s, _ := hull.Ship(p, api.MaxDay)
		day := r.IntN(5)
		if n := len(p.Changes); n > 0 {
			day += p.Changes[n-1].Day
		}
		q := copyOf(p)
		q.Changes = append(q.Changes, randomChange(r, s, day))
		if _, _, e := hull.Check(q); e == api.OK {
			p = q
		}
	}
	return p
}

// randomPlans is plans of one ship that was changed in several ways.
func randomPlans(r *rand.Rand) []api.HuPlan {
	p := randomShip(r)
	var l []api.HuPlan
	for range 1 + r.IntN(api.MaxHuVersions) {
		l = append(l, randomChanges(r, p))
	}
	return l
}

// trueSights is at most n sights that are true of a ship.
func trueSights(r *rand.Rand, s api.HuShip, n int) []api.HuSight {
	var l []api.HuSight
	for range r.IntN(n + 1) {
		w := api.HuSight{Name: pool[r.IntN(len(pool))], Frame: r.IntN(41)}
		w.Kind = found(s, w.Name, w.Frame)
		l = append(l, w)
	}
	return l
}

// many runs a test with random numbers that are the same in each run.
func many(t *testing.T, n int, test func(r *rand.Rand)) {
	t.Helper()
	for i := range n {
		test(rand.New(rand.NewPCG(uint64(i), 1)))
		if t.Failed() {
			t.Fatalf("failed with the random numbers %d", i)
		}
	}
}
