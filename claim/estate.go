package claim

import (
	"slices"

	"orlop/api"
)

// estate is an estate without an error that is looked at.
type estate struct{ api.ClEstate }

// look returns an estate to look at; or its error.
func look(x api.ClEstate) (estate, api.Errno) {
	if _, _, e := Check(x); e != api.OK {
		return estate{}, e
	}
	return estate{x}, api.OK
}

// lookIn returns an estate to look at in a truth; or the error of the estate, or else that of the truth.
func lookIn(x api.ClEstate, t api.ClTruth) (estate, api.Errno) {
	y, e := look(x)
	if e != api.OK {
		return estate{}, e
	}
	if e := truthFault(x, t); e != api.OK {
		return estate{}, e
	}
	return y, api.OK
}

// with returns the estate with a further claim behind all others.
func (x estate) with(further api.ClClaim) estate {
	x.Claims = append(slices.Clone(x.Claims), further)
	return x
}

// nobody stands for a claim where there is none.
const nobody = -1

// lo and hi are the ends of a span.
func lo(s api.Span) int { return s.Lo }
func hi(s api.Span) int { return s.Hi }

// extreme returns the truth that has one end of Proceeds and of the Cents of a claim, and another one of the Cents of all others.
func (x estate) extreme(claim int, own, other func(api.Span) int) api.ClTruth {
	t := api.ClTruth{Proceeds: own(x.Proceeds)}
	for i, c := range x.Claims {
		end := other
		if i == claim {
			end = own
		}
		t.Cents = append(t.Cents, end(c.Cents))
	}
	return t
}

// worst returns the truth in which there is least to share, and each claim is the most that it can be: one that is paid in full in it always is.
func (x estate) worst() api.ClTruth { return x.extreme(nobody, lo, hi) }

// due is a claim that is just so many cents.
type due struct {
	api.ClClaim
	cents int
}

func (d due) rank() int { return d.Rank }

func (d due) owed() int { return d.cents }

// ranks is a sum for each rank; that of the rank 0, which no claim has, is 0.
type ranks [api.MaxClRank + 1]int

// byRank returns the sums of some numbers, each of which has a rank.
func byRank[T any](l []T, rank, number func(T) int) (sums ranks) {
	for _, x := range l {
		sums[rank(x)] += number(x)
	}
	return sums
}

// upTo returns the sum of all ranks up to one.
func (r ranks) upTo(rank int) (sum int) {
	for _, n := range r[:rank+1] {
		sum += n
	}
	return sum
}

// sums returns how many cents all claims of each rank are together in a truth.
func (x estate) sums(t api.ClTruth) ranks {
	var dues []due
	for claim, c := range x.Claims {
		dues = append(dues, due{c, t.Cents[claim]})
	}
	return byRank(dues, due.rank, due.owed)
}

// pays returns what each claim gets in a truth, and the rest.
func (x estate) pays(t api.ClTruth) (pays []int, rest int) {
	sums := x.sums(t)
	pays, rest = make([]int, len(x.Claims)), t.Proceeds
claims:
	for claim, c := range x.Claims {
		left := t.Proceeds
		for _, sum := range sums[:c.Rank] {
			if left < sum {
				// Also what is left by rounding does not go to later ranks.
				continue claims
			}
			left -= sum
		}
		pays[claim] = share(left, t.Cents[claim], sums[c.Rank])
		rest -= pays[claim]
	}
	return pays, rest
}

// share returns what a claim of so many cents gets of what is left for all claims of its rank, which are a sum together.
func share(left, cents, sum int) int {
	if left >= sum {
		return cents
	}
	// The product is at most MaxClCents times MaxClCents, which an int holds.
	return left * cents / sum
}
