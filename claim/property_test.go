package claim_test

import (
	"math/bits"
	"math/rand/v2"
	"slices"
	"testing"

	"orlop/api"
	"orlop/claim"
)

// found is what Owners returns, and paid what Pays does, without an error.
func found(t *testing.T, s api.ClShip, day int) []string {
	t.Helper()
	l, e := claim.Owners(s, day)
	if e != api.OK {
		t.Errorf("Owners of %+v on %d: %d", s, day, e)
	}
	return l
}

func paid(t *testing.T, x api.ClEstate, u api.ClTruth) ([]int, int) {
	t.Helper()
	pays, rest, e := claim.Pays(x, u)
	if e != api.OK || len(pays) != len(x.Claims) {
		t.Fatalf("Pays of %+v in %+v = %v, %d, %d", x, u, pays, rest, e)
	}
	return pays, rest
}

// TestOwnersByWords is P11.2: owners, and what has to be forged, over all truths, by the chapter's words.
func TestOwnersByWords(t *testing.T) {
	one, several, never, ties := 0, 0, 0, 0
	var lengths [9]int
	many(t, 10000, func(r *rand.Rand) {
		s := randomShip(r, 8)
		day := randomDay(r, s)
		ownersAre(t, "any", s, day, ownersOf(s, day), api.OK)
		all := leading(s, day)
		for _, name := range words("a", "b", "c", "aa", "a0", "d", "") {
			want, e := forgedOf(s, day, name)
			forgedIs(t, "any", s, day, name, want, e)
			short := slices.DeleteFunc(lists(all[name]), func(l []int) bool { return len(l) != len(want) })
			switch {
			case e != api.OK:
				never++
			case len(all[name]) == 1:
				one++
			default:
				several++
			}
			if e == api.OK {
				lengths[len(want)]++
			}
			if len(short) > 1 {
				ties++
			}
		}
	})
	enough(t, "owners of one truth", one, 2000)
	enough(t, "owners of several truths", several, 2000)
	enough(t, "names of no owner", never, 2000)
	enough(t, "several lists that are as short", ties, 300)
	for length, want := range ints(5000, 1000, 300, 50) {
		enough(t, "a length", lengths[length], want)
	}
}

// TestOwnerIsOneOfOwners is P11.7: the owner in any truth is one of Owners; the papers of Forged lead to a name, and no fewer ones do.
func TestOwnerIsOneOfOwners(t *testing.T) {
	shorter := 0
	many(t, 3000, func(r *rand.Rand) {
		s := randomShip(r, 8)
		day := randomDay(r, s)
		owners := found(t, s, day)
		for set := range 1 << len(s.Papers) {
			owner := ownerOf(s, day, set)
			if bits.OnesCount(uint(set)) <= s.Forged && !slices.Contains(owners, owner) {
				t.Errorf("Owners of %+v on %d = %q, but with %v forged %q is the owner", s, day, owners, listOf(set), owner)
			}
		}
		for _, name := range owners {
			list, e := claim.Forged(s, day, name)
			if e != api.OK || len(list) > s.Forged || !slices.IsSorted(list) || ownerOf(s, day, setOf(list)) != name {
				t.Errorf("Forged of %+v on %d, %q = %v, %d", s, day, name, list, e)
			}
			for set := range 1 << len(s.Papers) {
				if bits.OnesCount(uint(set)) < len(list) {
					shorter++
					if ownerOf(s, day, set) == name {
						t.Errorf("Forged of %+v on %d, %q = %v, but %v are fewer", s, day, name, list, listOf(set))
					}
				}
			}
		}
	})
	enough(t, "fewer papers", shorter, 5000)
}

// TestLaterDays is P11.8: papers of later days change nothing.
func TestLaterDays(t *testing.T) {
	dropped, added := 0, 0
	many(t, 4000, func(r *rand.Rand) {
		s := randomShip(r, 6)
		day := randomDay(r, s)
		owners := found(t, s, day)
		other := copyShip(s)
		other.Papers = slices.DeleteFunc(other.Papers, func(p api.ClPaper) bool { return p.Day > day })
		dropped += len(s.Papers) - len(other.Papers)
		ownersAre(t, "without later papers", other, day, owners, api.OK)
		if day == 40000 {
			return
		}
		more := copyShip(s)
		at := r.IntN(len(s.Papers) + 1)
		more.Papers = slices.Insert(more.Papers, at, paper(from(r, day+1, 40000), oneOf(r, "a", "b", "c"), "zz"))
		added++
		ownersAre(t, "with a later paper", more, day, owners, api.OK)
		for _, name := range owners {
			list, _ := claim.Forged(s, day, name)
			for i, p := range list {
				if p >= at {
					list[i]++
				}
			}
			forgedIs(t, "with a later paper", more, day, name, list, api.OK)
		}
	})
	enough(t, "papers that are dropped", dropped, 500)
	enough(t, "papers that are added", added, 2000)
}

// TestMoreForged is P11.8: if no paper can be forged there is one owner; if more can be, nobody is no owner any more, nor has more forged.
func TestMoreForged(t *testing.T) {
	grown := 0
	many(t, 2000, func(r *rand.Rand) {
		s := randomShip(r, 8)
		day := randomDay(r, s)
		before := words()
		for s.Forged = 0; s.Forged <= 8; s.Forged++ {
			owners := found(t, s, day)
			if s.Forged == 0 && !slices.Equal(owners, words(ownerOf(s, day, 0))) {
				t.Errorf("Owners of %+v on %d = %q, though no paper can be forged", s, day, owners)
			}
			less := copyShip(s)
			less.Forged--
			for _, name := range before {
				list, e := claim.Forged(less, day, name)
				if !slices.Contains(owners, name) {
					t.Errorf("%q is no owner any more: %+v on %d", name, s, day)
				}
				forgedIs(t, "more can be forged", s, day, name, list, e)
			}
			if s.Forged > 0 && len(owners) > len(before) {
				grown++
			}
			before = owners
		}
	})
	enough(t, "more owners", grown, 500)
}

// TestPaysByWords is P11.4 and P11.9: what claims get, by the chapter's words; just the proceeds are paid, and by rank.
func TestPaysByWords(t *testing.T) {
	rounded, later, full, none := 0, 0, 0, 0
	many(t, 20000, func(r *rand.Rand) {
		x := randomEstate(r, anySize(r))
		u := randomTruth(r, x)
		want, rest := paysOf(x, u)
		paysAre(t, "any", x, u, want, rest, api.OK)
		pays, rest := paid(t, x, u)
		if total(pays)+rest != u.Proceeds || rest < 0 {
			t.Errorf("%+v in %+v: %v and %d are not the proceeds", x, u, pays, rest)
		}
		short := 6 // the first rank that is not paid in full
		for i, n := range pays {
			if n < 0 || n > u.Cents[i] {
				t.Errorf("%+v in %+v: %v is not from the claims", x, u, pays)
			}
			if n < u.Cents[i] {
				short = min(short, x.Claims[i].Rank)
			}
		}
		for i, n := range pays {
			switch behind := x.Claims[i].Rank > short; {
			case behind && n > 0:
				t.Errorf("%+v in %+v: %d gets %d, though the rank %d is not paid", x, u, i, n, short)
			case behind && u.Cents[i] > 0 && rest > 0:
				none++
			case behind:
				later++
			}
		}
		if short < 6 && rest > 0 {
			rounded++
		}
		if short == 6 {
			full++
		}
	})
	for _, n := range ints(rounded, later, full, none) {
		enough(t, "a kind of estate", n, 1000)
	}
}

// TestShares is P11.10: two claims of a rank get as many cents of each of theirs, but for less than a cent each.
func TestShares(t *testing.T) {
	pairs := 0
	many(t, 8000, func(r *rand.Rand) {
		x := randomEstate(r, anySize(r))
		u := randomTruth(r, x)
		pays, _ := paid(t, x, u)
		for i, c := range x.Claims {
			for k, d := range x.Claims {
				a, b := u.Cents[i], u.Cents[k]
				if c.Rank != d.Rank || a == 0 || b == 0 {
					continue
				}
				pairs++
				// For some share q, q times a is from pays[i] to less than a cent more, and q times b likewise.
				if pays[i]*b >= (pays[k]+1)*a {
					t.Errorf("%+v in %+v: %v are not the same shares of %d and %d", x, u, pays, i, k)
				}
			}
		}
	})
	enough(t, "pairs of a rank", pairs, 20000)
}

// moved is an estate, and a truth, whose i-th claim comes to the place to[i].
func moved(x api.ClEstate, u api.ClTruth, to []int) (api.ClEstate, api.ClTruth) {
	y, v := copyEstate(x), copyTruth(u)
	for i, k := range to {
		y.Claims[k], v.Cents[k] = x.Claims[i], u.Cents[i]
	}
	return y, v
}

// placed is a list whose i-th element comes to the place to[i].
func placed[T any](l []T, to []int) []T {
	m := slices.Clone(l)
	for i, k := range to {
		m[k] = l[i]
	}
	return m
}

// TestAnyOrder is P11.11: in whatever order claims are told, all is the same for each.
func TestAnyOrder(t *testing.T) {
	some := 0
	many(t, 6000, func(r *rand.Rand) {
		x := randomEstate(r, anySize(r))
		u := randomTruth(r, x)
		to := r.Perm(len(x.Claims))
		y, v := moved(x, u, to)
		if !slices.IsSorted(to) {
			some++
		}
		pays, rest := paid(t, x, u)
		paysAre(t, "moved", y, v, placed(pays, to), rest, api.OK)
		ranges, _ := claim.Ranges(x)
		rangesAre(t, "moved", y, placed(ranges, to), api.OK)
		sure, _ := claim.Sure(x)
		for i, claim := range sure {
			sure[i] = to[claim]
		}
		slices.Sort(sure)
		sureIs(t, "moved", y, sure, api.OK)
		for i := range x.Claims {
			n, _ := claim.Least(x, i)
			leastIs(t, "moved", y, to[i], n, api.OK)
		}
		if further := randomFurther(r, x); len(x.Claims) < 8 {
			cost, e := claim.Cost(x, u, further)
			costIs(t, "moved", y, v, further, placed(cost, to), e)
		}
	})
	enough(t, "orders", some, 3000)
}

// randomFurther is a further claim, that can be as large as those of an estate.
func randomFurther(r *rand.Rand, x api.ClEstate) api.ClClaim {
	n := oneOf(r, x.Claims...).Cents.Hi
	n = oneOf(r, 0, 1, n, from(r, 0, n), from(r, 0, billion))
	return claimOf("tug", from(r, 1, 5), n, n)
}

// TestEveryTruth is P11.5 and P11.12: all truths of small estates are looked at.
func TestEveryTruth(t *testing.T) {
	wide, sure, not, truthsMet := 0, 0, 0, 0
	many(t, 10000, func(r *rand.Rand) {
		x := randomEstate(r, small(r))
		o := outcomeOf(x, all)
		rangesAre(t, "all truths", x, o.ranges, api.OK)
		sureIs(t, "all truths", x, o.sure, api.OK)
		for _, s := range o.ranges {
			if s.Lo < s.Hi {
				wide++
			}
		}
		sure += len(o.sure)
		not += len(x.Claims) - len(o.sure)
		truths(x, all, func(api.ClTruth) { truthsMet++ })
	})
	enough(t, "wide ranges", wide, 1000)
	enough(t, "claims that are sure", sure, 1000)
	enough(t, "claims that are not", not, 1000)
	enough(t, "truths", truthsMet, 50000)
}

// TestAnyTruth is P11.12 for estates of any size: in any truth what a claim gets is in its range, and that of Sure is all of it; where some spans end, the ends are reached.
func TestAnyTruth(t *testing.T) {
	sure, not := 0, 0
	many(t, 3000, func(r *rand.Rand) {
		x := randomEstate(r, anySize(r))
		o := outcomeOf(x, ends)
		rangesAre(t, "ends of spans", x, o.ranges, api.OK)
		sureIs(t, "ends of spans", x, o.sure, api.OK)
		for range 20 {
			u := randomTruth(r, x)
			pays, _ := paid(t, x, u)
			for i, n := range pays {
				if s := o.ranges[i]; n < s.Lo || n > s.Hi {
					t.Errorf("%+v in %+v: %d gets %d, which is not in %+v", x, u, i, n, s)
				}
				if slices.Contains(o.sure, i) && n != u.Cents[i] {
					t.Errorf("%+v in %+v: %d gets %d, though it is sure", x, u, i, n)
				}
			}
		}
		sure += len(o.sure)
		not += len(x.Claims) - len(o.sure)
	})
	enough(t, "claims that are sure", sure, 1000)
	enough(t, "claims that are not", not, 1000)
}

// TestLeastProceeds is P11.5 and P11.13: with the proceeds of Least a claim gets all its cents, with a cent less it does not in some truth.
func TestLeastProceeds(t *testing.T) {
	zero, some := 0, 0
	test := func(r *rand.Rand, x api.ClEstate, numbers func(api.Span) []int) {
		for i := range x.Claims {
			n, e := claim.Least(x, i)
			if e != api.OK || n < 0 || !inFull(x, n, i, numbers) {
				t.Errorf("%+v: Least of %d = %d, %d, with which it is not paid", x, i, n, e)
			}
			if n == 0 {
				zero++
				continue
			}
			some++
			if inFull(x, n-1, i, numbers) {
				t.Errorf("%+v: Least of %d = %d, but a cent less pays it", x, i, n)
			}
			if n <= billion {
				x.Proceeds = span(n, n)
				isSure(t, x, i, true)
				x.Proceeds = span(n-1, n)
				isSure(t, x, i, false)
			}
		}
	}
	many(t, 1000, func(r *rand.Rand) {
		test(r, randomEstate(r, small(r)), all)
		test(r, randomEstate(r, anySize(r)), ends)
	})
	enough(t, "claims of 0 cents", zero, 500)
	enough(t, "others", some, 2000)
}

// isSure checks whether a claim is in Sure.
func isSure(t *testing.T, x api.ClEstate, i int, want bool) {
	t.Helper()
	if l, e := claim.Sure(x); slices.Contains(l, i) != want || e != api.OK {
		t.Errorf("Sure of %+v = %v, %d; of %d want %v", x, l, e, i, want)
	}
}

// TestFurtherClaim is P11.6 and P11.14: what a further claim costs, by the chapter's words, and that it is what it gets, less what the rest has lost.
func TestFurtherClaim(t *testing.T) {
	same, later, rests, grown := 0, 0, 0, 0
	many(t, 10000, func(r *rand.Rand) {
		x := randomEstate(r, anySize(r))
		if len(x.Claims) == 8 {
			x.Claims = x.Claims[:7]
		}
		u := randomTruth(r, x)
		further := randomFurther(r, x)
		y, v := copyEstate(x), copyTruth(u)
		y.Claims, v.Cents = append(y.Claims, further), append(v.Cents, further.Cents.Lo)
		before, rest := paysOf(x, u)
		after, then := paysOf(y, v)
		want := make([]int, len(x.Claims))
		for i := range want {
			want[i] = before[i] - after[i]
		}
		costIs(t, "any", x, u, further, want, api.OK)
		cost, _ := claim.Cost(x, u, further)
		for i, n := range cost {
			earlier := x.Claims[i].Rank < further.Rank
			if n < 0 || n > 0 && earlier {
				t.Errorf("%+v in %+v: %+v costs %v", x, u, further, cost)
			}
			switch {
			case n > 0 && x.Claims[i].Rank == further.Rank:
				same++
			case n > 0:
				later++
			}
		}
		if total(cost) != after[len(x.Claims)]-(rest-then) {
			t.Errorf("%+v in %+v: %+v costs %v, gets %d, and the rest is %d of %d", x, u, further, cost, after[len(x.Claims)], then, rest)
		}
		if then < rest {
			rests++
		}
		if then > rest {
			grown++
		}
	})
	enough(t, "a cost to the same rank", same, 500)
	enough(t, "a cost to a later rank", later, 500)
	enough(t, "the rest loses", rests, 500)
	enough(t, "the rest grows by rounding", grown, 100)
}

// TestMore is P11.15: with more proceeds nobody gets less; with more cents a claim gets no less, and no other one gets more.
func TestMore(t *testing.T) {
	gains, losses := 0, 0
	many(t, 10000, func(r *rand.Rand) {
		x := randomEstate(r, anySize(r))
		for i := range x.Claims {
			x.Claims[i].Cents.Hi = billion
		}
		u := randomTruth(r, x)
		u.Proceeds, x.Proceeds.Hi = x.Proceeds.Lo, billion
		before, _ := paid(t, x, u)
		v := copyTruth(u)
		v.Proceeds = from(r, u.Proceeds, oneOf(r, billion, min(billion, u.Proceeds+10)))
		after, _ := paid(t, x, v)
		for i := range before {
			if after[i] < before[i] {
				t.Errorf("%+v: with %d proceeds %v, with %d %v", x, u.Proceeds, before, v.Proceeds, after)
			}
		}
		i := r.IntN(len(x.Claims))
		v = copyTruth(u)
		v.Cents[i] = from(r, u.Cents[i], oneOf(r, billion, min(billion, u.Cents[i]+10)))
		after, _ = paid(t, x, v)
		for k := range before {
			if k == i && after[k] < before[k] || k != i && after[k] > before[k] {
				t.Errorf("%+v: in %+v %v, in %+v %v", x, u, before, v, after)
			}
			if k == i && after[k] > before[k] {
				gains++
			}
			if k != i && after[k] < before[k] {
				losses++
			}
		}
	})
	enough(t, "claims that get more", gains, 500)
	enough(t, "claims that get less", losses, 500)
}
