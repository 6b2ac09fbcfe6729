package stand_test

import (
	"math/rand/v2"
	"testing"

	"orlop/api"
	"orlop/stand"
)

// TestAgainstTruths is P5.2, P5.3, P5.6, P5.7 and P5.9: what all truths of small hulls say, of which each is looked at.
func TestAgainstTruths(t *testing.T) {
	var met [4]int
	many(t, 400, func(r *rand.Rand) {
		h := smallHull(r, 3)
		tide := randomSpan(r, 0, 12, 6)
		falls := false
		for water := tide.Lo; water <= tide.Hi; water++ {
			want := bal(greatest, greatest, greatest)
			stands := true
			truths(h, func(truth api.StTruth) {
				b := balance(h, truth, water)
				want = bal(min(want.Down, b.Down), min(want.Aft, b.Aft), min(want.Fore, b.Fore))
				stands = stands && reason(b) == api.StStands
				balanceIs(t, h, h, truth, water, b, api.OK)
			})
			leastIs(t, h, h, water, want, api.OK)
			if (reason(want) == api.StStands) != stands {
				t.Errorf("%v at %d: the least balance is %v", h, water, want)
			}
			if !falls && !stands {
				falls = true
				whyIs(t, h, h, tide, reason(want), water, api.OK)
			}
			met[reason(want)]++
			if _, got, e := stand.Show(h, water); got != reason(want) || e != api.OK {
				t.Errorf("%v at %d: Show = %d, %d; want %d", h, water, got, e, reason(want))
			}
		}
		if !falls {
			whyIs(t, h, h, tide, api.StStands, 0, api.OK)
		}
	})
	for _, n := range met {
		enough(t, "a reason", n, 50)
	}
}

// TestAgainstHeights is P5.2, P5.3 and P5.5: what each height of water says, of hulls of any size.
func TestAgainstHeights(t *testing.T) {
	var met [4]int
	dips, none, full := 0, 0, 0
	many(t, 1500, func(r *rand.Rand) {
		h := anyHull(r)
		tide := randomTide(r, h)
		want, water := why(h, tide)
		whyIs(t, h, h, tide, want, water, api.OK)
		met[want]++
		if want != api.StStands && surely(h, span(tide.Lo, tide.Lo)) && surely(h, span(tide.Hi, tide.Hi)) {
			dips++
		}
		w := from(r, tide)
		leastIs(t, h, h, w, leastOf(h, w), api.OK)
		switch up, at := why(h, all()); {
		case up == api.StStands:
			full++
			tideIs(t, h, h, api.MaxStWater, api.OK)
		case at == 0:
			none++
			tideIs(t, h, h, 0, api.ErrDown)
		default:
			tideIs(t, h, h, at-1, api.OK)
		}
	})
	for _, n := range met {
		enough(t, "a reason", n, 100)
	}
	enough(t, "standing at both ends only", dips, 10)
	enough(t, "standing at no height", none, 100)
	enough(t, "standing at all heights", full, 20)
}

// TestEveryTruth is P5.6 and P5.7: in any truth a hull stands below the height that Why returns, at which it does not stand in the truth of Show.
func TestEveryTruth(t *testing.T) {
	standing := 0
	var met [4]int
	many(t, 1500, func(r *rand.Rand) {
		h := anyHull(r)
		tide := randomTide(r, h)
		r1, water, e := stand.Why(h, tide)
		if e != api.OK {
			t.Fatalf("Why of %v has the error %d", h, e)
		}
		met[r1]++
		below := tide
		if r1 != api.StStands {
			below.Hi = water - 1
			truth, r2, e := stand.Show(h, water)
			b, f := stand.Balance(h, truth, water)
			if e != api.OK || f != api.OK || r1 != r2 || reason(b) != r1 {
				t.Errorf("%v at %d: Why = %d, Show = %v, %d, %d, of which the balance is %v", h, water, r1, truth, r2, e, b)
			}
		}
		if below.Lo > below.Hi {
			return
		}
		for range 20 {
			standing++
			truth, w := randomTruth(r, h), from(r, below)
			b, e := stand.Balance(h, truth, w)
			if e != api.OK || reason(b) != api.StStands {
				t.Errorf("%v through %v: at %d the balance of %v is %v, %d", h, below, w, truth, b, e)
			}
		}
	})
	enough(t, "truths", standing, 3000)
	for _, n := range met {
		enough(t, "a reason", n, 100)
	}
}

// TestShownSide is P5.3: the truth of Show has of each part one of two pairs of ends, whatever the hull is.
func TestShownSide(t *testing.T) {
	var met [4]int
	many(t, 1500, func(r *rand.Rand) {
		h := anyHull(r)
		water := from(r, randomTide(r, h))
		want := reason(leastOf(h, water))
		met[want]++
		var truth api.StTruth
		for _, x := range h.Parts {
			weight, lift := x.Weight.Lo, x.Lift.Hi
			if want == api.StAft && x.At < h.Aft || want == api.StFore && x.At > h.Fore {
				weight, lift = x.Weight.Hi, x.Lift.Lo
			}
			truth.Weights = append(truth.Weights, weight)
			truth.Lifts = append(truth.Lifts, lift)
		}
		showIs(t, h, h, water, truth, want, api.OK)
	})
	for _, n := range met {
		enough(t, "a reason", n, 100)
	}
}

// spread is forces that bear as much as others, at the same place together: twice some of one is moved as far to one side as to the other one.
func spread(r *rand.Rand, h api.StHull, l []api.StForce) []api.StForce {
	for len(l)+2 <= api.MaxStForces {
		i := r.IntN(len(l))
		far := min(l[i].At-h.Aft, h.Fore-l[i].At)
		if far == 0 {
			// Two forces at the ends come nearer to each other by as much.
			n, d := r.IntN(min(l[0].Force, l[1].Force)+1), r.IntN((h.Fore-h.Aft)/2+1)
			if l[0].At != h.Aft || l[1].At != h.Fore {
				return l
			}
			l[0].Force -= n
			l[1].Force -= n
			l = append(l, force(h.Aft+d, n), force(h.Fore-d, n))
			continue
		}
		n, d := r.IntN(l[i].Force/2+1), r.IntN(far+1)
		l[i].Force -= 2 * n
		l = append(l, force(l[i].At-d, n), force(l[i].At+d, n))
	}
	r.Shuffle(len(l), func(i, j int) { l[i], l[j] = l[j], l[i] })
	return l
}

// bears is whether forces bear a hull of a balance, by the chapter's words. No number may be so great that the sums are not exact.
func bears(h api.StHull, b api.StBalance, l []api.StForce) bool {
	total, turn := 0, 0
	for _, f := range l {
		if f.At < h.Aft || f.At > h.Fore || f.Force < 0 {
			return false
		}
		total += f.Force
		turn += f.Force * (f.At - h.Aft)
	}
	length := h.Fore - h.Aft
	return b.Down > 0 && total == b.Down*length && turn == b.Aft*length
}

// TestForcesBear is P5.4 and P5.8: if a hull stands, the two forces bear it, and so do others; what is changed a little does not.
func TestForcesBear(t *testing.T) {
	standing, down, changed := 0, 0, 0
	many(t, 1500, func(r *rand.Rand) {
		h := anyHull(r)
		truth, water := randomTruth(r, h), from(r, randomTide(r, h))
		b := balance(h, truth, water)
		if reason(b) != api.StStands {
			down++
			forcesAre(t, h, h, truth, water, nil, api.ErrDown)
			two := forces(force(h.Aft, b.Fore), force(h.Fore, b.Aft))
			bearsIs(t, h, h, truth, water, two, false, api.OK)
			return
		}
		standing++
		two := forces(force(h.Aft, b.Fore), force(h.Fore, b.Aft))
		forcesAre(t, h, h, truth, water, two, api.OK)
		bearsIs(t, h, h, truth, water, two, true, api.OK)
		l := spread(r, h, two)
		bearsIs(t, h, h, truth, water, l, true, api.OK)
		i := r.IntN(len(l))
		switch r.IntN(3) {
		case 0:
			l[i].Force += r.IntN(5) - 2
		case 1:
			l[i].At += r.IntN(5) - 2
		case 2:
			l = append(l[:i], l[i+1:]...)
		}
		want := bears(h, b, l)
		bearsIs(t, h, h, truth, water, l, want, api.OK)
		if !want {
			changed++
		}
	})
	enough(t, "standing", standing, 300)
	enough(t, "not standing", down, 300)
	enough(t, "forces that do not bear", changed, 100)
}

// TestAllForces is P5.4 and P5.8: of all lists of few small forces, some bear a hull only if it stands.
func TestAllForces(t *testing.T) {
	borne, fallen := 0, 0
	for i, h := range []api.StHull{
		hullOf(1, 3, known("a", 2, 3, 0, 1)),
		hullOf(1, 3, known("a", 1, 2, 1, 1), known("b", 3, 1, 0, 0)),
		hullOf(1, 3, known("a", 0, 2, 0, 1), known("b", 3, 1, 0, 0)),
		hullOf(1, 3, known("a", 4, 2, 0, 1), known("b", 2, 2, 1, 1)),
		hullOf(1, 2, known("a", 1, 3, 0, 1), known("b", 2, 3, 2, 2)),
	} {
		for water := range 5 {
			var truth api.StTruth
			for _, x := range h.Parts {
				truth.Weights = append(truth.Weights, x.Weight.Lo)
				truth.Lifts = append(truth.Lifts, x.Lift.Lo)
			}
			b := balance(h, truth, water)
			for n := range 50 * 50 {
				l := forces(force(n%5, n/5%10-1), force(n/50%5, n/250-1))
				want := bears(h, b, l)
				bearsIs(t, i, h, truth, water, l, want, api.OK)
				if want {
					borne++
				}
				if want && reason(b) != api.StStands {
					t.Errorf("%v at %d is borne by %v", h, water, l)
				}
			}
			if reason(b) != api.StStands {
				fallen++
			}
		}
	}
	enough(t, "borne", borne, 50)
	enough(t, "not standing", fallen, 5)
}

// TestLeastBallast is P5.10: with as much ballast a hull surely stands through the tide, with less it does not.
func TestLeastBallast(t *testing.T) {
	none, some, down := 0, 0, 0
	many(t, 1500, func(r *rand.Rand) {
		h := anyHull(r)
		i := r.IntN(len(h.Parts))
		h.Parts[i].At = from(r, span(h.Aft, h.Fore))
		if r.IntN(4) == 0 {
			h.Parts[i].At = ints(h.Aft, h.Fore)[r.IntN(2)]
		}
		tide := randomTide(r, h)
		if r.IntN(2) == 0 {
			tide.Hi = min(tide.Hi, tide.Lo+20)
		}
		kilos, e := stand.Ballast(h, i, tide)
		if e == api.ErrDown {
			down++
			kilos = api.MaxStWeight + 1
		} else if e != api.OK || kilos < 0 || kilos > api.MaxStWeight || !surely(loaded(h, i, kilos), tide) {
			t.Errorf("%v: Ballast on %d through %v = %d, %d", h, i, tide, kilos, e)
		}
		if kilos == 0 {
			none++
			return
		}
		if e == api.OK {
			some++
		}
		for _, less := range ints(kilos-1, r.IntN(kilos), 0) {
			if surely(loaded(h, i, less), tide) {
				t.Errorf("%v: Ballast on %d through %v = %d, %d, but %d does", h, i, tide, kilos, e, less)
			}
		}
	})
	enough(t, "no ballast", none, 100)
	enough(t, "some ballast", some, 200)
	enough(t, "not enough", down, 100)
}

// TestLessWater is P5.11: through any tide up to the height of Tide a hull surely stands, at the height above it it does not.
func TestLessWater(t *testing.T) {
	some, full := 0, 0
	many(t, 1000, func(r *rand.Rand) {
		h := anyHull(r)
		height, e := stand.Tide(h)
		if e == api.ErrDown {
			if r, water, _ := stand.Why(h, all()); r == api.StStands || water != 0 {
				t.Errorf("%v: Tide has the error %d, Why = %d at %d", h, e, r, water)
			}
			return
		}
		some++
		for range 5 {
			tide := span(r.IntN(height+1), height)
			tide.Hi -= r.IntN(tide.Hi - tide.Lo + 1)
			whyIs(t, h, h, tide, api.StStands, 0, api.OK)
			ballastAny(t, h, tide)
		}
		if height == api.MaxStWater {
			full++
			return
		}
		if r, water, e := stand.Why(h, span(height+1, height+1)); r == api.StStands || water != height+1 || e != api.OK {
			t.Errorf("%v: Tide = %d, but above it Why = %d at %d, %d", h, height, r, water, e)
		}
	})
	enough(t, "heights", some, 200)
	enough(t, "all heights", full, 20)
}

// ballastAny checks that no ballast is needed where a hull surely stands.
func ballastAny(t *testing.T, h api.StHull, tide api.Span) {
	t.Helper()
	for i, x := range h.Parts {
		if x.At >= h.Aft && x.At <= h.Fore {
			ballastIs(t, h, h, i, tide, 0, api.OK)
		}
	}
}

func narrowed(r *rand.Rand, s api.Span) api.Span {
	a, b := from(r, s), from(r, s)
	return span(min(a, b), max(a, b))
}

// TestLessIsKnown is P5.12: narrower spans make no number less, and with longer ground what surely stood still does.
func TestLessIsKnown(t *testing.T) {
	more, stood, fell := 0, 0, 0
	many(t, 1500, func(r *rand.Rand) {
		h := anyHull(r)
		tide := randomTide(r, h)
		water := from(r, tide)
		narrow := copyOf(h)
		for i := range narrow.Parts {
			x := &narrow.Parts[i]
			x.Weight, x.Lift = narrowed(r, x.Weight), narrowed(r, x.Lift)
		}
		a, _ := stand.Least(h, water)
		b, e := stand.Least(narrow, water)
		if e != api.OK || b.Down < a.Down || b.Aft < a.Aft || b.Fore < a.Fore {
			t.Errorf("%v, with narrower spans %v: at %d the least balances are %v and %v", h, narrow, water, a, b)
		}
		if b.Down > a.Down && b.Aft > a.Aft && b.Fore > a.Fore {
			more++
		}
		long := copyOf(h)
		long.Aft, long.Fore = r.IntN(h.Aft+1), h.Fore+r.IntN(api.MaxStAt-h.Fore+1)
		before, at, _ := stand.Why(h, tide)
		after, then, _ := stand.Why(long, tide)
		if before == api.StStands {
			stood++
			whyIs(t, long, long, tide, api.StStands, 0, api.OK)
		} else if fell++; after != api.StStands && then < at {
			t.Errorf("%v, with longer ground %v: from %d and %d on", h, long, at, then)
		}
	})
	enough(t, "no number the same", more, 300)
	enough(t, "standing", stood, 200)
	enough(t, "not standing", fell, 200)
}

// otherWay is a reason that a hull has when it is turned end for end.
func otherWay(r int) int {
	return ints(api.StStands, api.StFloats, api.StFore, api.StAft)[r]
}

// TestEndForEnd is P5.13: turned end for end, Down is the same, and Aft and Fore are exchanged.
func TestEndForEnd(t *testing.T) {
	aft, fore := 0, 0
	many(t, 1500, func(r *rand.Rand) {
		h := anyHull(r)
		other := turned(h)
		water, truth := from(r, randomTide(r, h)), randomTruth(r, h)
		a, _ := stand.Balance(h, truth, water)
		balanceIs(t, other, other, truth, water, bal(a.Down, a.Fore, a.Aft), api.OK)
		b, _ := stand.Least(h, water)
		leastIs(t, other, other, water, bal(b.Down, b.Fore, b.Aft), api.OK)
		up, e := stand.Tide(h)
		tideIs(t, other, other, up, e)
		shown, r1, _ := stand.Show(h, water)
		if b.Aft < 0 && b.Fore < 0 {
			return // each way it is the first one that counts
		}
		showIs(t, other, other, water, shown, otherWay(r1), api.OK)
		whyIs(t, other, other, span(water, water), otherWay(r1), ints(0, water)[min(r1, 1)], api.OK)
		if r1 == api.StAft {
			aft++
		}
		if r1 == api.StFore {
			fore++
		}
	})
	enough(t, "over Aft", aft, 100)
	enough(t, "over Fore", fore, 100)
}

// split is two spans whose sum is a span.
func split(r *rand.Rand, s api.Span) (a, b api.Span) {
	a.Lo = r.IntN(s.Lo + 1)
	a.Hi = a.Lo + r.IntN(s.Hi-s.Lo+1)
	return a, span(s.Lo-a.Lo, s.Hi-a.Hi)
}

// TestInOne is P5.14: two parts at the same place and with the same Keel press like one part.
func TestInOne(t *testing.T) {
	many(t, 1500, func(r *rand.Rand) {
		h := anyHull(r)
		if n := len(h.Parts); n == api.MaxStParts {
			h.Parts = h.Parts[:n-1]
		}
		one := copyOf(h)
		x := &h.Parts[r.IntN(len(h.Parts))]
		y := *x
		y.Name = "other"
		x.Weight, y.Weight = split(r, x.Weight)
		x.Lift, y.Lift = split(r, x.Lift)
		h.Parts = append(h.Parts, y)
		water := r.IntN(api.MaxStWater + 1)
		want, e := stand.Least(one, water)
		leastIs(t, one, h, water, want, e)
		up, e := stand.Tide(one)
		tideIs(t, one, h, up, e)
	})
	h := sampleH()
	h.Parts[1] = part("mid1", 400, 500, 500, 100, 3, 3)
	h.Parts = append(h.Parts, part("mid2", 400, 0, 100, 100, 1, 2))
	tideIs(t, "two mids", h, 133, api.OK)
	leastIs(t, "two mids", h, 150, bal(1050, 730000, -140000), api.OK)
}
