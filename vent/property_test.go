package vent_test

import (
	"math/rand/v2"
	"slices"
	"testing"

	"orlop/api"
	"orlop/vent"
)

// TestAgainstJoins is P4.2 and P4.12: two tanks are joined just if Joined returns the same of them, and that is the least one; one more blank joins no others.
func TestAgainstJoins(t *testing.T) {
	apart := 0
	many(t, 1500, func(r *rand.Rand) {
		n := randomNet(r, 4, 4)
		blanks := randomBlanks(r, n, 1+r.IntN(4))
		is := joined(n, blanks)
		var want []int
		for i := range n.Tanks {
			want = append(want, slices.Index(is[i][:], true))
		}
		joinedIs(t, n, n, blanks, want, api.OK)
		for more := range n.Pipes {
			if n.Pipes[more].Welded || slices.Contains(blanks, more) {
				continue
			}
			list := append(slices.Clone(blanks), more)
			slices.Sort(list)
			joins, e := vent.Joined(n, list)
			for i := range joins {
				for j := range i {
					if joins[i] == joins[j] && !is[i][j] {
						t.Errorf("%v: behind %v one more blank joins %d and %d", n, blanks, i, j)
					}
				}
			}
			if !slices.Equal(joins, want) {
				apart++
			}
			if e != api.OK {
				t.Errorf("%v: Joined behind %v: %d", n, list, e)
			}
		}
	})
	enough(t, "blanks that tell tanks apart", apart, 500)
}

// TestAgainstSpreading is P4.2 and P4.13: what the gas does pipe by pipe.
func TestAgainstSpreading(t *testing.T) {
	spread := 0
	many(t, 1500, func(r *rand.Rand) {
		n := randomNet(r, 8, 4)
		blanks := randomBlanks(r, n, 1+r.IntN(4))
		l := randomSteps(r, n, blanks, r.IntN(api.MaxVnSteps+1))
		s, _ := doesAll(t, n, blanks, l)
		afterIs(t, n, n, blanks, l, s.free.list(), s.blown.list(), api.OK)
		got, _ := vent.After(n, blanks, l)
		for i, p := range n.Pipes {
			for _, ends := range [][2]int{{p.From, p.To}, {p.To, p.From}} {
				from, to := slices.Contains(got.Free, ends[0]), slices.Contains(got.Free, ends[1])
				if !slices.Contains(blanks, i) && from && !to && !slices.Contains(got.Blowers, ends[0]) {
					t.Errorf("%v: gas spreads through the pipe %d after %v", n, i, l)
				}
			}
		}
		for _, i := range got.Blowers {
			if !slices.Contains(got.Free, i) {
				t.Errorf("%v: the tank %d has a blower, and is not free after %v", n, i, l)
			}
		}
		for length := 1; length < len(l); length++ {
			a, _ := vent.After(n, blanks, l[:length])
			b, _ := vent.After(n, blanks, l[:length+1])
			if slices.ContainsFunc(a.Free, func(i int) bool { return !slices.Contains(b.Free, i) }) {
				spread++
			}
		}
	})
	enough(t, "steps after which gas spreads", spread, 1000)
}

// TestAgainstWays is P4.3: the first of all ways of gas that are open.
func TestAgainstWays(t *testing.T) {
	found, none, several := 0, 0, 0
	many(t, 3000, func(r *rand.Rand) {
		n, blanks, wanted := randomAim(r)
		all := ways(n, wanted)
		want := fewestPipes(all, blanks)
		if want == nil {
			none++
			wayIs(t, n, n, blanks, wanted, nil, api.ErrNone)
			return
		}
		found++
		if slices.ContainsFunc(all, func(way []int) bool { return isOpen(way, blanks) && len(way) == len(want) && way[0] != want[0] }) {
			several++
		}
		wayIs(t, n, n, blanks, wanted, want, api.OK)
	})
	enough(t, "ways", found, 500)
	enough(t, "no way", none, 500)
	enough(t, "several ways", several, 200)
}

// TestAgainstBlanks is P4.4, P4.5, P4.7 and P4.8: all lists of blanks, and all ways of gas, are tried.
func TestAgainstBlanks(t *testing.T) {
	down, big, first := 0, 0, 0
	many(t, 3000, func(r *rand.Rand) {
		n, _, wanted := randomAim(r)
		all := ways(n, wanted)
		want, found := fewestBlanks(n, all)
		if !found {
			down++
			blanksAre(t, n, n, wanted, nil, api.ErrDown)
			waysAre(t, n, n, wanted, 0, api.ErrDown)
			return
		}
		if len(want) > 2 {
			big++
		}
		last := want
		lists(n, len(want), func(list []int) bool {
			if separate(all, list) {
				last = list
			}
			return true
		})
		if !slices.Equal(want, last) {
			first++
		}
		blanksAre(t, n, n, wanted, want, api.OK)
		waysAre(t, n, n, wanted, len(want), api.OK)
		l, _ := vent.Ways(n, wanted)
		provesIs(t, n, n, wanted, l, true, api.OK)
		is := joined(n, want)
		for i, tank := range n.Tanks {
			for _, j := range wanted {
				if tank.Kept && is[i][j] {
					t.Errorf("%v: behind %v the tank %d is joined to %d", n, want, j, i)
				}
			}
		}
	})
	enough(t, "not to be separated", down, 300)
	enough(t, "more than 2 blanks", big, 200)
	enough(t, "several lists of blanks", first, 100)
}

// TestFewerBlanks is P4.7: behind any fewer blanks some wanted tank is joined to a Kept one, by what Joined returns.
func TestFewerBlanks(t *testing.T) {
	fewer := 0
	many(t, 150, func(r *rand.Rand) {
		n, _, wanted := randomAim(r)
		best, e := vent.Blanks(n, wanted)
		if e != api.OK {
			return
		}
		reached := func(blanks []int) bool {
			joins, e := vent.Joined(n, blanks)
			if e != api.OK {
				t.Errorf("%v: Joined behind %v: %d", n, blanks, e)
			}
			return slices.ContainsFunc(wanted, func(j int) bool {
				for i, tank := range n.Tanks {
					if tank.Kept && joins[i] == joins[j] {
						return true
					}
				}
				return false
			})
		}
		if reached(best) {
			t.Errorf("%v: the blanks %v do not separate %v", n, best, wanted)
		}
		for size := range best {
			lists(n, size, func(list []int) bool {
				fewer++
				if !reached(list) {
					t.Errorf("%v: the blanks %v separate %v; Blanks = %v", n, list, wanted, best)
				}
				return true
			})
		}
	})
	enough(t, "fewer blanks", fewer, 500)
}

// randomProof is ways of gas, of which no two may go together, and lists that are none.
func randomProof(r *rand.Rand, all [][]int) [][]int {
	var l [][]int
	for range r.IntN(4) {
		if len(all) > 0 {
			l = append(l, slices.Clone(all[r.IntN(len(all))]))
		}
	}
	if len(l) == 0 || r.IntN(3) > 0 {
		return l
	}
	i := r.IntN(len(l))
	at := r.IntN(len(l[i]))
	switch r.IntN(5) {
	case 0:
		l[i] = slices.Delete(l[i], at, at+1)
	case 1:
		l[i] = slices.Insert(l[i], at, r.IntN(13)-1)
	case 2:
		l[i][at] = r.IntN(14) - 1
	case 3:
		l[i] = append(l[i], r.IntN(12))
	case 4:
		slices.Reverse(l[i])
	}
	return l
}

// TestAgainstProofs is P4.5 and P4.8: Proves accepts just what the chapter says, and behind any fewer blanks one of the ways is open.
func TestAgainstProofs(t *testing.T) {
	accepted, refused := 0, 0
	many(t, 4000, func(r *rand.Rand) {
		n, _, wanted := randomAim(r)
		all := ways(n, wanted)
		l := randomProof(r, all)
		want := proves(n, wanted, l)
		provesIs(t, []any{n, wanted, l}, n, wanted, l, want, api.OK)
		if !want {
			refused++
			return
		}
		for _, way := range l {
			if !slices.ContainsFunc(all, func(other []int) bool { return slices.Equal(way, other) }) {
				t.Errorf("%v: %v is no way of gas to %v", n, way, wanted)
			}
		}
		if len(l) < 2 {
			return
		}
		accepted++
		for size := range min(len(l), 3) {
			lists(n, size, func(list []int) bool {
				if _, e := vent.Way(n, list, wanted); e != api.OK {
					t.Errorf("%v: behind %v there is no way of gas to %v, %d", n, list, wanted, e)
				}
				return true
			})
		}
	})
	enough(t, "accepted", accepted, 200)
	enough(t, "refused", refused, 500)
}

// TestAgainstPlans is P4.6 and P4.10: all states that can be reached with so many blowers are looked at.
func TestAgainstPlans(t *testing.T) {
	var needs [api.MaxVnTanks + 1]int
	long := 0
	many(t, 2000, func(r *rand.Rand) {
		n, blanks, wanted := randomAim(r)
		if r.IntN(2) == 0 {
			n.Pipes = slices.DeleteFunc(n.Pipes, func(p api.VnPipe) bool { return n.Tanks[p.From].Kept || n.Tanks[p.To].Kept })
			blanks = nil
		}
		need := fewestBlowers(n, blanks, wanted)
		needs[need]++
		e := api.OK
		if need == 0 {
			e = api.ErrDown
		}
		fewestIs(t, n, n, blanks, wanted, need, e)
		for _, blowers := range []int{1, need - 1, need, need + 1, api.MaxVnTanks} {
			if blowers < 1 || blowers > api.MaxVnTanks {
				continue
			}
			e, want := api.OK, plan(n, blanks, wanted, blowers)
			if want == nil {
				e = api.ErrDown
			}
			if len(want) > 12 {
				long++
			}
			planIs(t, []any{n, blanks, wanted, blowers}, n, blanks, wanted, blowers, want, e)
		}
	})
	for need, wanted := range []int{100, 200, 200, 100, 10} {
		enough(t, "nets that need so many blowers", needs[need], wanted)
	}
	enough(t, "long plans", long, 20)
}

// TestFreed is P4.6 and P4.9: what After says of plans, of their beginnings, and of any further steps.
func TestFreed(t *testing.T) {
	plans := 0
	many(t, 600, func(r *rand.Rand) {
		n, blanks, wanted := randomAim(r)
		l, e := vent.Plan(n, blanks, wanted, 1+r.IntN(api.MaxVnTanks))
		if e != api.OK {
			return
		}
		plans++
		for length := range l {
			if s, _ := doesAll(t, n, blanks, l[:length]); frees(s, wanted) {
				t.Errorf("%v: behind %v the first %d steps of %v free %v", n, blanks, length, l, wanted)
			}
		}
		s, _ := doesAll(t, n, blanks, l)
		for range 60 {
			got, e := vent.After(n, blanks, l)
			if e != api.OK || !sameStates(got, api.VnState{Free: s.free.list(), Blowers: s.blown.list()}) {
				t.Errorf("%v: After %v = %v, %d", n, l, got, e)
			}
			for _, i := range wanted {
				if !slices.Contains(got.Free, i) {
					t.Errorf("%v: behind %v the tank %d is not free after %v", n, blanks, i, l)
				}
			}
			i := r.IntN(len(n.Tanks))
			step := api.VnStep{Tank: i, Off: s.blown[i]}
			if possible(n, s, step) && len(l) < api.MaxVnSteps {
				l = append(l, step)
				s = does(n, blanks, s, step)
			}
		}
	})
	enough(t, "plans", plans, 200)
}

// TestFewerBlowers is P4.10: with as many blowers as Fewest says there is a plan that has so many at a time, and any steps with fewer do not free the tanks.
func TestFewerBlowers(t *testing.T) {
	tried := 0
	many(t, 600, func(r *rand.Rand) {
		n, blanks, wanted := randomAim(r)
		fewest, e := vent.Fewest(n, blanks, wanted)
		if e != api.OK {
			planIs(t, n, n, blanks, wanted, api.MaxVnTanks, nil, api.ErrDown)
			return
		}
		l, e := vent.Plan(n, blanks, wanted, fewest)
		s, blowers := doesAll(t, n, blanks, l)
		if e != api.OK || !frees(s, wanted) || blowers != fewest {
			t.Errorf("%v: Plan with %d blowers = %v, %d", n, fewest, l, e)
		}
		if fewest == 1 {
			return
		}
		tried++
		planIs(t, n, n, blanks, wanted, fewest-1, nil, api.ErrDown)
		s = state{}
		for range 200 {
			i := r.IntN(len(n.Tanks))
			step := api.VnStep{Tank: i, Off: s.blown[i]}
			if !possible(n, s, step) || !step.Off && len(s.blown.list()) == fewest-1 {
				continue
			}
			if s = does(n, blanks, s, step); frees(s, wanted) {
				t.Errorf("%v: behind %v fewer than %d blowers free %v", n, blanks, fewest, wanted)
			}
		}
	})
	enough(t, "nets in which fewer blowers were tried", tried, 100)
}

// TestFreedJustIfSeparated is P4.11.
func TestFreedJustIfSeparated(t *testing.T) {
	freed, not := 0, 0
	many(t, 1500, func(r *rand.Rand) {
		n, blanks, wanted := randomAim(r)
		_, e := vent.Way(n, blanks, wanted)
		_, f := vent.Fewest(n, blanks, wanted)
		_, g := vent.Plan(n, blanks, wanted, api.MaxVnTanks)
		switch {
		case e == api.OK && f == api.ErrDown && g == api.ErrDown:
			not++
		case e == api.ErrNone && f == api.OK && g == api.OK:
			freed++
		default:
			t.Errorf("%v: behind %v the errors for %v are %d, %d, %d", n, blanks, wanted, e, f, g)
		}
		if best, e := vent.Blanks(n, wanted); e == api.OK {
			_, e = vent.Fewest(n, best, wanted)
			if e != api.OK {
				t.Errorf("%v: behind %v Fewest: %d", n, best, e)
			}
		}
	})
	enough(t, "freed", freed, 300)
	enough(t, "not freed", not, 300)
}

// TestOneMoreBlank is P4.12: no more blowers are needed.
func TestOneMoreBlank(t *testing.T) {
	fewer := 0
	many(t, 600, func(r *rand.Rand) {
		n, blanks, wanted := randomAim(r)
		before, e := vent.Fewest(n, blanks, wanted)
		if e != api.OK {
			return
		}
		for more := range n.Pipes {
			if n.Pipes[more].Welded || slices.Contains(blanks, more) {
				continue
			}
			list := append(slices.Clone(blanks), more)
			slices.Sort(list)
			after, e := vent.Fewest(n, list, wanted)
			if e != api.OK || after > before {
				t.Errorf("%v: behind %v: %d blowers; behind %v: %d, %d", n, blanks, before, list, after, e)
			}
			if after < before {
				fewer++
			}
		}
	})
	enough(t, "fewer blowers", fewer, 100)
}

// turnedRound is a net in which each pipe, or some of them, goes the other way.
func turnedRound(n api.VnNet, pipes func(i int) bool) api.VnNet {
	n = copyOf(n)
	for i, p := range n.Pipes {
		if pipes(i) {
			n.Pipes[i].From, n.Pipes[i].To = p.To, p.From
		}
	}
	return n
}

// sameResults checks that nothing that the functions return is changed if a net takes the place of another one.
func sameResults(t *testing.T, a, b api.VnNet, blanks, wanted []int, l []api.VnStep) {
	t.Helper()
	joins, e := vent.Joined(a, blanks)
	joinedIs(t, a, b, blanks, joins, e)
	s, e := vent.After(a, blanks, l)
	afterIs(t, a, b, blanks, l, s.Free, s.Blowers, e)
	way, e := vent.Way(a, blanks, wanted)
	wayIs(t, a, b, blanks, wanted, way, e)
	best, e := vent.Blanks(a, wanted)
	blanksAre(t, a, b, wanted, best, e)
	all, e := vent.Ways(a, wanted)
	if got, f := vent.Ways(b, wanted); !sameLists(got, all) || f != e {
		t.Errorf("%v: Ways = %v, %d; want %v, %d", a, got, f, all, e)
	}
	is, e := vent.Proves(a, wanted, all)
	provesIs(t, a, b, wanted, all, is, e)
	for _, blowers := range []int{1, 3, api.MaxVnTanks} {
		list, e := vent.Plan(a, blanks, wanted, blowers)
		planIs(t, a, b, blanks, wanted, blowers, list, e)
	}
	fewest, e := vent.Fewest(a, blanks, wanted)
	fewestIs(t, a, b, blanks, wanted, fewest, e)
}

// TestTurnedRound is P4.14: if pipes are turned round nothing changes.
func TestTurnedRound(t *testing.T) {
	many(t, 400, func(r *rand.Rand) {
		n, blanks, wanted := randomAim(r)
		l := randomSteps(r, n, blanks, 20)
		sameResults(t, n, turnedRound(n, func(int) bool { return true }), blanks, wanted, l)
		only := r.IntN(api.MaxVnPipes)
		sameResults(t, n, turnedRound(n, func(i int) bool { return i == only }), blanks, wanted, l)
	})
}

// moved is where things are that were put in another order, ascending.
func moved(l, to []int) []int {
	var list []int
	for _, i := range l {
		list = append(list, to[i])
	}
	slices.Sort(list)
	return list
}

// TestAnotherOrder is P4.14: if tanks and pipes are put in another order, there are as many blanks, and as many blowers.
func TestAnotherOrder(t *testing.T) {
	freed, separated := 0, 0
	many(t, 800, func(r *rand.Rand) {
		n, blanks, wanted := randomAim(r)
		tankTo, pipeTo := r.Perm(len(n.Tanks)), r.Perm(len(n.Pipes))
		m := copyOf(n)
		for i, tank := range n.Tanks {
			m.Tanks[tankTo[i]] = tank
		}
		for i, p := range n.Pipes {
			m.Pipes[pipeTo[i]] = api.VnPipe{From: tankTo[p.From], To: tankTo[p.To], Welded: p.Welded}
		}
		a, e := vent.Blanks(n, wanted)
		b, f := vent.Blanks(m, moved(wanted, tankTo))
		if len(a) != len(b) || e != f {
			t.Errorf("%v, %v: Blanks = %v, %d and %v, %d", n, m, a, e, b, f)
		}
		if e == api.OK {
			separated++
		}
		fewest, e := vent.Fewest(n, blanks, wanted)
		fewestIs(t, n, m, moved(blanks, pipeTo), moved(wanted, tankTo), fewest, e)
		if e == api.OK {
			freed++
		}
	})
	enough(t, "separated", separated, 300)
	enough(t, "freed", freed, 200)
}
