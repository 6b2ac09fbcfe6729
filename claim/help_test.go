package claim_test

import (
	"math/big"
	"math/bits"
	"math/rand/v2"
	"slices"
	"testing"

	"orlop/api"
	"orlop/claim"
)

const (
	least    = -1 << 63
	greatest = 1<<63 - 1
	billion  = 1000000000
)

// far is numbers that are in no range of the chapter.
func far() []int {
	return []int{least, least + 1, -1 << 62, -1 << 32, -1<<32 + 1, -1 << 31, -2, 1 << 31, 1 << 32, 1<<32 + 1, 1<<62 + 1, greatest - 1, greatest}
}

func ints(l ...int) []int { return l }

func words(l ...string) []string { return l }

func span(lo, hi int) api.Span { return api.Span{Lo: lo, Hi: hi} }

func paper(day int, from, to string) api.ClPaper { return api.ClPaper{Day: day, From: from, To: to} }

func shipOf(first string, forged int, papers ...api.ClPaper) api.ClShip {
	return api.ClShip{First: first, Papers: papers, Forged: forged}
}

func claimOf(name string, rank, lo, hi int) api.ClClaim {
	return api.ClClaim{Name: name, Rank: rank, Cents: span(lo, hi)}
}

func estateOf(lo, hi int, claims ...api.ClClaim) api.ClEstate {
	return api.ClEstate{Proceeds: span(lo, hi), Claims: claims}
}

// ranked is an estate whose claims have some ranks, and each just so many cents.
func ranked(proceeds int, of ...[2]int) (x api.ClEstate) {
	x.Proceeds = span(proceeds, proceeds)
	for i, c := range of {
		x.Claims = append(x.Claims, claimOf("c"+string(rune('0'+i)), c[0], c[1], c[1]))
	}
	return x
}

func truthOf(proceeds int, cents ...int) api.ClTruth {
	return api.ClTruth{Proceeds: proceeds, Cents: cents}
}

// sampleS, sampleE and sampleT are S, E and T of the chapter's examples.
func sampleS() api.ClShip {
	return shipOf("clyde", 1, paper(10, "clyde", "orient"), paper(20, "orient", "pacific"), paper(30, "orient", "cash"))
}

func sampleE() api.ClEstate {
	return estateOf(1000, 1200, claimOf("crew", 1, 300, 400), claimOf("bank", 2, 600, 800), claimOf("yard", 2, 300, 300), claimOf("flag", 3, 100, 100))
}

func sampleT() api.ClTruth { return truthOf(1000, 300, 600, 300, 100) }

func copyShip(s api.ClShip) api.ClShip {
	s.Papers = slices.Clone(s.Papers)
	return s
}

func copyEstate(x api.ClEstate) api.ClEstate {
	x.Claims = slices.Clone(x.Claims)
	return x
}

func copyTruth(t api.ClTruth) api.ClTruth {
	t.Cents = slices.Clone(t.Cents)
	return t
}

// ownerOf is the owner on a day, by the chapter's words, if the papers of a set are forged.
func ownerOf(s api.ClShip, day, forged int) string {
	days := ints()
	for _, p := range s.Papers {
		if p.Day <= day {
			days = append(days, p.Day)
		}
	}
	slices.Sort(days)
	owner := s.First
	for _, d := range slices.Compact(days) {
		for i, p := range s.Papers {
			if p.Day == d && forged>>i&1 == 0 && owner == p.From {
				owner = p.To
			}
		}
	}
	return owner
}

// listOf is the indices of a set, ascending.
func listOf(set int) (l []int) {
	for i := range 64 {
		if set>>i&1 == 1 {
			l = append(l, i)
		}
	}
	return l
}

// setOf is the set of some indices.
func setOf(l []int) (set int) {
	for _, i := range l {
		set |= 1 << i
	}
	return set
}

// leading is all truths of a ship, by who is the owner on a day in them.
func leading(s api.ClShip, day int) map[string][]int {
	all := map[string][]int{}
	for set := range 1 << len(s.Papers) {
		if bits.OnesCount(uint(set)) <= s.Forged {
			owner := ownerOf(s, day, set)
			all[owner] = append(all[owner], set)
		}
	}
	return all
}

// ownersOf is what Owners has to return.
func ownersOf(s api.ClShip, day int) (l []string) {
	for owner := range leading(s, day) {
		l = append(l, owner)
	}
	slices.Sort(l)
	return l
}

// forgedOf is what Forged has to return.
func forgedOf(s api.ClShip, day int, name string) ([]int, api.Errno) {
	sets := leading(s, day)[name]
	if len(sets) == 0 {
		return nil, api.ErrNone
	}
	return slices.MinFunc(lists(sets), shorter), api.OK
}

func lists(sets []int) (l [][]int) {
	for _, set := range sets {
		l = append(l, listOf(set))
	}
	return l
}

// shorter compares lists by their lengths, and then number by number.
func shorter(a, b []int) int {
	if len(a) != len(b) {
		return len(a) - len(b)
	}
	return slices.Compare(a, b)
}

// shareOf is left times cents by sum, rounded down.
func shareOf(left, cents, sum int) int {
	n := new(big.Int).Mul(big.NewInt(int64(left)), big.NewInt(int64(cents)))
	return int(n.Div(n, big.NewInt(int64(sum))).Int64())
}

// paysOf is what Pays has to return, by the chapter's words.
func paysOf(x api.ClEstate, t api.ClTruth) (pays []int, rest int) {
	pays = make([]int, len(x.Claims))
	left := t.Proceeds
	for rank := 1; rank <= 5; rank++ {
		sum := 0
		for i, c := range x.Claims {
			if c.Rank == rank {
				sum += t.Cents[i]
			}
		}
		for i, c := range x.Claims {
			if c.Rank != rank {
				continue
			}
			if left >= sum {
				pays[i] = t.Cents[i]
			} else {
				pays[i] = shareOf(left, t.Cents[i], sum)
			}
		}
		if left < sum {
			break
		}
		left -= sum
	}
	return pays, t.Proceeds - total(pays)
}

func total(l []int) (sum int) {
	for _, n := range l {
		sum += n
	}
	return sum
}

// all is every number of a span, and ends its ends.
func all(s api.Span) (l []int) {
	for n := s.Lo; n <= s.Hi; n++ {
		l = append(l, n)
	}
	return l
}

func ends(s api.Span) []int { return slices.Compact(ints(s.Lo, s.Hi)) }

// truths calls a function with all truths of an estate whose numbers are some of each span. The truth that it is handed is not its own.
func truths(x api.ClEstate, some func(api.Span) []int, test func(api.ClTruth)) {
	t := truthOf(0, make([]int, len(x.Claims))...)
	var next func(i int)
	next = func(i int) {
		if i == len(x.Claims) {
			test(t)
			return
		}
		for _, n := range some(x.Claims[i].Cents) {
			t.Cents[i] = n
			next(i + 1)
		}
	}
	for _, t.Proceeds = range some(x.Proceeds) {
		next(0)
	}
}

// outcome is what can come of claims over some truths.
type outcome struct {
	ranges []api.Span
	sure   []int
}

// outcomeOf looks at all truths whose numbers are some of each span.
func outcomeOf(x api.ClEstate, some func(api.Span) []int) (o outcome) {
	short := make([]bool, len(x.Claims))
	truths(x, some, func(t api.ClTruth) {
		pays, _ := paysOf(x, t)
		first := o.ranges == nil
		for i, n := range pays {
			if first {
				o.ranges = append(o.ranges, span(n, n))
			}
			o.ranges[i] = span(min(o.ranges[i].Lo, n), max(o.ranges[i].Hi, n))
			short[i] = short[i] || n < t.Cents[i]
		}
	})
	for i := range short {
		if !short[i] {
			o.sure = append(o.sure, i)
		}
	}
	return o
}

// inFull is whether a claim gets all its cents with some proceeds, in all truths whose numbers are some of each span.
func inFull(x api.ClEstate, proceeds, i int, some func(api.Span) []int) bool {
	x.Proceeds = span(proceeds, proceeds)
	return slices.Contains(outcomeOf(x, some).sure, i)
}

func from(r *rand.Rand, lo, hi int) int { return lo + r.IntN(hi-lo+1) }

func oneOf[T any](r *rand.Rand, l ...T) T { return l[r.IntN(len(l))] }

// randomShip is a ship with at most so many papers, of few owners and few days, so that papers meet.
func randomShip(r *rand.Rand, papers int) (s api.ClShip) {
	owners := words("a", "b", "c", "aa", "a0")[:from(r, 2, 5)]
	last := oneOf(r, 0, 2, 6, 40000)
	s.First = oneOf(r, owners...)
	at := s.First
	for range oneOf(r, papers, papers, r.IntN(papers+1)) {
		p := paper(from(r, 0, last), oneOf(r, owners...), oneOf(r, owners...))
		if r.IntN(2) == 0 {
			p.From = at
		}
		for p.To == p.From {
			p.To = oneOf(r, owners...)
		}
		if len(s.Papers) > 0 && r.IntN(8) == 0 {
			p = oneOf(r, s.Papers...)
		}
		at = p.To
		s.Papers = append(s.Papers, p)
	}
	s.Forged = oneOf(r, 0, 1, 1, 2, 2, 3, 8)
	return s
}

// randomDay is a day on which there is a paper, or one beside it, or any.
func randomDay(r *rand.Rand, s api.ClShip) int {
	if len(s.Papers) == 0 || r.IntN(4) == 0 {
		return from(r, 0, 40000)
	}
	return min(40000, max(0, oneOf(r, s.Papers...).Day+from(r, -1, 1)))
}

// sizes tells how large the numbers of random estates are.
type sizes struct{ claims, ranks, cents, wide int }

func small(r *rand.Rand) sizes { return sizes{4, from(r, 1, 3), oneOf(r, 1, 3, 9), 2} }

func anySize(r *rand.Rand) sizes {
	cents := oneOf(r, 1, 10, 1000, billion)
	return sizes{8, from(r, 1, 5), cents, oneOf(r, 0, cents/10, cents)}
}

// randomSpan is a span from 0 to a number, at most so wide.
func randomSpan(r *rand.Rand, most, wide int) api.Span {
	lo := from(r, 0, most)
	return span(lo, from(r, lo, min(most, lo+wide)))
}

// randomEstate is an estate whose proceeds are near what some ranks need.
func randomEstate(r *rand.Rand, of sizes) (x api.ClEstate) {
	for i := range from(r, 1, of.claims) {
		c := claimOf("c"+string(rune('0'+i)), from(r, 1, of.ranks), 0, 0)
		if r.IntN(6) > 0 {
			c.Cents = randomSpan(r, of.cents, of.wide)
		}
		x.Claims = append(x.Claims, c)
	}
	r.Shuffle(len(x.Claims), func(i, k int) { x.Claims[i], x.Claims[k] = x.Claims[k], x.Claims[i] })
	sum, upTo := 0, from(r, 0, 5)
	for _, c := range x.Claims {
		if c.Rank <= upTo {
			sum += oneOf(r, c.Cents.Lo, c.Cents.Hi, c.Cents.Hi, c.Cents.Hi)
		}
	}
	if r.IntN(4) == 0 {
		sum = from(r, 0, sum)
	}
	lo := min(billion, max(0, sum+from(r, -1, 1)))
	x.Proceeds = span(lo, from(r, lo, min(billion, lo+of.wide)))
	return x
}

// randomNumber is a number of a span, often an end.
func randomNumber(r *rand.Rand, s api.Span) int { return oneOf(r, s.Lo, s.Hi, from(r, s.Lo, s.Hi)) }

func randomTruth(r *rand.Rand, x api.ClEstate) (t api.ClTruth) {
	t.Proceeds = randomNumber(r, x.Proceeds)
	for _, c := range x.Claims {
		t.Cents = append(t.Cents, randomNumber(r, c.Cents))
	}
	return t
}

// many runs a test with random numbers that are the same in each run.
func many(t *testing.T, n int, test func(r *rand.Rand)) {
	t.Helper()
	for i := range n {
		test(rand.New(rand.NewPCG(uint64(i), 11)))
		if t.Failed() {
			t.Fatalf("failed with the random numbers %d", i)
		}
	}
}

// enough checks that random arguments led to something often enough.
func enough(t *testing.T, what string, n, want int) {
	t.Helper()
	if n < want {
		t.Errorf("%s: only %d times", what, n)
	}
}

// shipChecks, ownersAre, and so on check what a function returns.
func shipChecks(t *testing.T, what any, s api.ClShip, part, at int, e api.Errno) {
	t.Helper()
	if p, a, f := claim.CheckShip(s); p != part || a != at || f != e {
		t.Errorf("%v: CheckShip of %+v = %d, %d, %d; want %d, %d, %d", what, s, p, a, f, part, at, e)
	}
}

func ownersAre(t *testing.T, what any, s api.ClShip, day int, want []string, e api.Errno) {
	t.Helper()
	if l, f := claim.Owners(s, day); !slices.Equal(l, want) || f != e {
		t.Errorf("%v: Owners of %+v on %d = %q, %d; want %q, %d", what, s, day, l, f, want, e)
	}
}

func forgedIs(t *testing.T, what any, s api.ClShip, day int, name string, want []int, e api.Errno) {
	t.Helper()
	if l, f := claim.Forged(s, day, name); !slices.Equal(l, want) || f != e {
		t.Errorf("%v: Forged of %+v on %d: %q = %v, %d; want %v, %d", what, s, day, name, l, f, want, e)
	}
}

// shipErrors checks that all functions with a ship but CheckShip return an error, and nothing else.
func shipErrors(t *testing.T, what any, s api.ClShip, day int, name string, e api.Errno) {
	t.Helper()
	ownersAre(t, what, s, day, nil, e)
	forgedIs(t, what, s, day, name, nil, e)
}

func checks(t *testing.T, what any, x api.ClEstate, part, at int, e api.Errno) {
	t.Helper()
	if p, a, f := claim.Check(x); p != part || a != at || f != e {
		t.Errorf("%v: Check of %+v = %d, %d, %d; want %d, %d, %d", what, x, p, a, f, part, at, e)
	}
}

func paysAre(t *testing.T, what any, x api.ClEstate, u api.ClTruth, want []int, rest int, e api.Errno) {
	t.Helper()
	if l, n, f := claim.Pays(x, u); !slices.Equal(l, want) || n != rest || f != e {
		t.Errorf("%v: Pays of %+v in %+v = %v, %d, %d; want %v, %d, %d", what, x, u, l, n, f, want, rest, e)
	}
}

func rangesAre(t *testing.T, what any, x api.ClEstate, want []api.Span, e api.Errno) {
	t.Helper()
	if l, f := claim.Ranges(x); !slices.Equal(l, want) || f != e {
		t.Errorf("%v: Ranges of %+v = %v, %d; want %v, %d", what, x, l, f, want, e)
	}
}

func sureIs(t *testing.T, what any, x api.ClEstate, want []int, e api.Errno) {
	t.Helper()
	if l, f := claim.Sure(x); !slices.Equal(l, want) || f != e {
		t.Errorf("%v: Sure of %+v = %v, %d; want %v, %d", what, x, l, f, want, e)
	}
}

func leastIs(t *testing.T, what any, x api.ClEstate, i, want int, e api.Errno) {
	t.Helper()
	if n, f := claim.Least(x, i); n != want || f != e {
		t.Errorf("%v: Least of %+v, %d = %d, %d; want %d, %d", what, x, i, n, f, want, e)
	}
}

func costIs(t *testing.T, what any, x api.ClEstate, u api.ClTruth, further api.ClClaim, want []int, e api.Errno) {
	t.Helper()
	if l, f := claim.Cost(x, u, further); !slices.Equal(l, want) || f != e {
		t.Errorf("%v: Cost of %+v in %+v, %+v = %v, %d; want %v, %d", what, x, u, further, l, f, want, e)
	}
}

// truthErrors checks that the functions with a truth return an error, and nothing else; estateErrors that all functions with an estate but Check do.
func truthErrors(t *testing.T, what any, x api.ClEstate, u api.ClTruth, further api.ClClaim, e api.Errno) {
	t.Helper()
	paysAre(t, what, x, u, nil, 0, e)
	costIs(t, what, x, u, further, nil, e)
}

func estateErrors(t *testing.T, what any, x api.ClEstate, u api.ClTruth, i int, further api.ClClaim, e api.Errno) {
	t.Helper()
	truthErrors(t, what, x, u, further, e)
	rangesAre(t, what, x, nil, e)
	sureIs(t, what, x, nil, e)
	leastIs(t, what, x, i, 0, e)
}
