package cut_test

import (
	"math/rand/v2"
	"slices"
	"testing"

	"orlop/api"
	"orlop/cut"
	"orlop/hull"
	"orlop/stand"
)

// agrees checks all functions against all good orders of a task, and returns whether one of them is whole.
func agrees(t *testing.T, task api.CtTask) bool {
	t.Helper()
	n := len(task.Ship.Parts)
	orders := goodOrders(n, reasons(task))
	first, whole := wholeOf(orders, n)
	down, proof := api.ErrDown, setsOf(n, orders)
	if whole {
		down, proof = api.OK, nil
	}
	firstIs(t, task, task, first, down)
	mostIs(t, task, task, mostOf(orders), api.OK)
	for part := range n {
		order, ends := endOf(orders, part)
		e := api.ErrDown
		if ends {
			e = api.OK
		}
		toIs(t, task, task, part, order, e)
	}
	if whole {
		proofIs(t, task, task, nil, api.ErrDown)
	} else {
		proofIs(t, task, task, proof, api.OK)
		provesIs(t, task, task, proof, true, api.OK)
	}
	return whole
}

// TestAgainstOrders is P6.4, P6.5, P6.7, P6.9 and P6.10: what all good orders of a task say, of which each is tried.
func TestAgainstOrders(t *testing.T) {
	whole, none := 0, 0
	many(t, 1500, func(r *rand.Rand) {
		if agrees(t, randomTask(r, 1+r.IntN(5))) {
			whole++
		} else {
			none++
		}
	})
	enough(t, "tasks with a whole order", whole, 300)
	enough(t, "tasks without one", none, 300)
}

// TestAgainstLongOrders is the same with as many parts as there can be.
func TestAgainstLongOrders(t *testing.T) {
	whole, none := 0, 0
	many(t, 60, func(r *rand.Rand) {
		if agrees(t, randomTask(r, 6+r.IntN(2))) {
			whole++
		} else {
			none++
		}
	})
	enough(t, "tasks with a whole order", whole, 10)
	enough(t, "tasks without one", none, 10)
}

// TestOrdersGoOn is P6.2, P6.3 and P6.8: behind each good order, what can be cut, what of it leads on, and why the rest cannot be cut.
func TestOrdersGoOn(t *testing.T) {
	var met [5]int
	leads, dead := 0, 0
	many(t, 600, func(r *rand.Rand) {
		n := 1 + r.IntN(4)
		task := randomTask(r, n)
		why := reasons(task)
		orders := goodOrders(n, why)
		for _, order := range orders {
			may, next := goesOn(orders, order, 0), goesOn(orders, order, n)
			badIs(t, task, task, order, -1, api.CtGood, api.OK)
			mayIs(t, task, task, order, may, api.OK)
			nextIs(t, task, task, order, next, api.OK)
			leads += len(next)
			dead += len(may) - len(next)
			for part := range n {
				want := why[behind(n, order)][part]
				met[want]++
				if want == api.CtGood {
					continue
				}
				// Whatever comes behind it is not asked.
				longer := append(slices.Clone(order), part, r.IntN(n))
				badIs(t, task, task, longer, len(order), want, api.OK)
				mayIs(t, task, task, longer, nil, api.ErrDown)
				nextIs(t, task, task, longer, nil, api.ErrDown)
			}
		}
	})
	for _, n := range met {
		enough(t, "a reason", n, 300)
	}
	enough(t, "parts that lead on", leads, 1000)
	enough(t, "parts that do not", dead, 200)
}

// randomTruth is a truth of a hull; in some of them all numbers are at ends of their spans.
func randomTruth(r *rand.Rand, h api.StHull) (t api.StTruth) {
	ends := r.IntN(2) == 0
	pick := func(s api.Span) int {
		if ends {
			return ints(s.Lo, s.Hi)[r.IntN(2)]
		}
		return s.Lo + r.IntN(s.Hi-s.Lo+1)
	}
	for _, x := range h.Parts {
		t.Weights = append(t.Weights, pick(x.Weight))
		t.Lifts = append(t.Lifts, pick(x.Lift))
	}
	return t
}

// TestStandsAfterEachCut is P6.6: after each cut of the order of First what is left stands in any truth, at any height of the tide, by forces that bear it; and no torch meets gas.
func TestStandsAfterEachCut(t *testing.T) {
	stood := 0
	many(t, 1000, func(r *rand.Rand) {
		task := randomTask(r, 1+r.IntN(api.MaxCtParts))
		order, e := cut.First(task)
		if e != api.OK {
			return
		}
		left := 1<<len(order) - 1
		for _, part := range order {
			left &^= 1 << part
			if left == 0 {
				break
			}
			h := rest(task, left)
			for range 10 {
				truth, water := randomTruth(r, h), task.Tide.Lo+r.IntN(task.Tide.Hi-task.Tide.Lo+1)
				forces, e := stand.Forces(h, truth, water)
				is, f := stand.Bears(h, truth, water, forces)
				if e != api.OK || f != api.OK || !is {
					t.Errorf("%v: %v does not stand at %d in %v: %d, %d", task, h, water, truth, e, f)
				}
				stood++
			}
		}
		if left != 0 {
			t.Errorf("%v: %v is left behind First", task, left)
		}
	})
	enough(t, "truths", stood, 3000)
}

// TestAnySets is P6.5 and P6.7: all lists of sets of small tasks, each of which proves just what the chapter's words say; if one of them does, no order is whole.
func TestAnySets(t *testing.T) {
	proved, more, whole := 0, 0, 0
	many(t, 60, func(r *rand.Rand) {
		n := 1 + r.IntN(3)
		task := randomTask(r, n)
		why := reasons(task)
		_, e := cut.First(task)
		if e == api.OK {
			whole++
		}
		minimum, _ := cut.Proof(task)
		for chosen := range 1 << (1 << n) {
			var sets []int
			for left := range 1 << n {
				if chosen>>left&1 == 1 {
					sets = append(sets, left)
				}
			}
			want := proves(n, why, sets)
			provesIs(t, task, task, sets, want, api.OK)
			if !want {
				continue
			}
			proved++
			if e != api.ErrDown {
				t.Errorf("%v: %v prove that no order is whole, but First has the error %d", task, sets, e)
			}
			for _, left := range minimum {
				if !slices.Contains(sets, left) {
					t.Errorf("%v: %v prove it without %d, which Proof returns", task, sets, left)
				}
			}
			if len(sets) > len(minimum) {
				more++
			}
		}
	})
	enough(t, "proofs", proved, 100)
	enough(t, "proofs with more than the least sets", more, 50)
	enough(t, "tasks with a whole order", whole, 10)
}

// TestShuffledSets is P6.5: sets prove as much in any order and told twice; without one of the least they do not.
func TestShuffledSets(t *testing.T) {
	proved := 0
	many(t, 600, func(r *rand.Rand) {
		task := randomTask(r, 1+r.IntN(api.MaxCtParts))
		sets, e := cut.Proof(task)
		if e != api.OK {
			return
		}
		proved++
		i := r.IntN(len(sets))
		provesIs(t, task, task, slices.Delete(slices.Clone(sets), i, i+1), false, api.OK)
		sets = append(sets, sets[:i]...)
		r.Shuffle(len(sets), func(i, j int) { sets[i], sets[j] = sets[j], sets[i] })
		provesIs(t, task, task, sets, true, api.OK)
		provesIs(t, task, task, append(sets, 0), false, api.OK)
		provesIs(t, task, task, append(sets, 1<<len(task.Ship.Parts)), false, api.ErrRange)
	})
	enough(t, "proofs", proved, 200)
}

// randomOrder is a good order that goes on as long as it can, or is left before.
func randomOrder(r *rand.Rand, task api.CtTask) []int {
	var order []int
	for {
		may, e := cut.May(task, order)
		if e != api.OK || len(may) == 0 || r.IntN(6) == 0 {
			return order
		}
		order = append(order, may[r.IntN(len(may))])
	}
}

// TestGoOnToTheEnd is P6.8: behind a part of Next, part by part, all parts are cut.
func TestGoOnToTheEnd(t *testing.T) {
	ended, stuck := 0, 0
	many(t, 600, func(r *rand.Rand) {
		task := randomTask(r, 1+r.IntN(api.MaxCtParts))
		order := randomOrder(r, task)
		begun := len(order)
		for {
			next, e := cut.Next(task, order)
			if e != api.OK {
				t.Fatalf("%v: Next behind %v has the error %d", task, order, e)
			}
			if len(next) == 0 {
				break
			}
			order = append(order, next[r.IntN(len(next))])
		}
		badIs(t, task, task, order, -1, api.CtGood, api.OK)
		switch {
		case len(order) == len(task.Ship.Parts):
			ended++
		case len(order) > begun:
			t.Errorf("%v: what Next returns led no farther than %v", task, order)
		default:
			stuck++
		}
	})
	enough(t, "whole orders", ended, 100)
	enough(t, "orders that no whole one goes on from", stuck, 100)
}

// easier is a task with a tide within that of another one, and with fewer tanks that have to be free.
func easier(r *rand.Rand, task api.CtTask) api.CtTask {
	task = copyOf(task)
	lo := task.Tide.Lo + r.IntN(task.Tide.Hi-task.Tide.Lo+1)
	task.Tide = span(lo, lo+r.IntN(task.Tide.Hi-lo+1))
	for i, tanks := range task.Tanks {
		task.Tanks[i] = slices.DeleteFunc(tanks, func(int) bool { return r.IntN(2) == 0 })
	}
	return task
}

// TestLessWaterMoreAir is P6.11: an order that was good still is, and no part is lost.
func TestLessWaterMoreAir(t *testing.T) {
	won := 0
	many(t, 1000, func(r *rand.Rand) {
		task := randomTask(r, 1+r.IntN(api.MaxCtParts))
		less := easier(r, task)
		order := randomOrder(r, task)
		badIs(t, less, less, order, -1, api.CtGood, api.OK)
		before, _ := cut.May(task, order)
		after, e := cut.May(less, order)
		for _, part := range before {
			if e != api.OK || !slices.Contains(after, part) {
				t.Errorf("%v behind %v: May = %v, %d; it was %v", less, order, after, e, before)
			}
		}
		won += len(after) - len(before)
	})
	enough(t, "parts that can be cut then", won, 100)
}

// TestAbove is P6.12: in a good order no part comes before one that is above it, nor does it without that one.
func TestAbove(t *testing.T) {
	met := 0
	many(t, 600, func(r *rand.Rand) {
		task := randomTask(r, 2+r.IntN(api.MaxCtParts-1))
		order := randomOrder(r, task)
		most, _ := cut.Most(task)
		for _, order := range [][]int{order, most} {
			for i, part := range order {
				names, e := hull.Above(api.HuPlan{Ship: task.Ship}, 0, task.Ship.Parts[part].Name)
				if e != api.OK {
					t.Fatalf("Above has the error %d", e)
				}
				met += len(names)
				for j, x := range task.Ship.Parts {
					if slices.Contains(names, x.Name) && !slices.Contains(order[:i], j) {
						t.Errorf("%v: in %v %d is above %d", task, order, j, part)
					}
				}
			}
		}
	})
	enough(t, "parts above others", met, 200)
}
