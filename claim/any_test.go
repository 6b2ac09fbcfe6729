package claim_test

import (
	"math/rand/v2"
	"reflect"
	"regexp"
	"slices"
	"strings"
	"testing"

	"orlop/api"
	"orlop/claim"
)

// arguments is what the functions are handed.
type arguments struct {
	ship    api.ClShip
	day     int
	name    string
	estate  api.ClEstate
	truth   api.ClTruth
	claim   int
	further api.ClClaim
}

func (a arguments) copy() arguments {
	a.ship, a.estate, a.truth = copyShip(a.ship), copyEstate(a.estate), copyTruth(a.truth)
	return a
}

// results is what all functions return; the errors are in the order of the functions in the chapter.
type results struct {
	shipPart, shipAt int
	owners           []string
	forged           []int
	part, at         int
	pays             []int
	rest             int
	ranges           []api.Span
	sure             []int
	least            int
	cost             []int
	errors           [9]api.Errno
}

func call(a arguments) (r results) {
	r.shipPart, r.shipAt, r.errors[0] = claim.CheckShip(a.ship)
	r.owners, r.errors[1] = claim.Owners(a.ship, a.day)
	r.forged, r.errors[2] = claim.Forged(a.ship, a.day, a.name)
	r.part, r.at, r.errors[3] = claim.Check(a.estate)
	r.pays, r.rest, r.errors[4] = claim.Pays(a.estate, a.truth)
	r.ranges, r.errors[5] = claim.Ranges(a.estate)
	r.sure, r.errors[6] = claim.Sure(a.estate)
	r.least, r.errors[7] = claim.Least(a.estate, a.claim)
	r.cost, r.errors[8] = claim.Cost(a.estate, a.truth, a.further)
	return r
}

func (r results) copy() results {
	r.owners, r.ranges = slices.Clone(r.owners), slices.Clone(r.ranges)
	for _, l := range r.lists() {
		*l = slices.Clone(*l)
	}
	return r
}

// lists is the lists of ints.
func (r *results) lists() []*[]int { return []*[]int{&r.forged, &r.pays, &r.sure, &r.cost} }

// same is whether results are the same; a nil list and an empty one are.
func (r results) same(s results) bool {
	alike := slices.Equal(r.owners, s.owners) && slices.Equal(r.ranges, s.ranges)
	r.owners, r.ranges, s.owners, s.ranges = nil, nil, nil, nil
	a, b := r.lists(), s.lists()
	for i := range a {
		alike = alike && slices.Equal(*a[i], *b[i])
		*a[i], *b[i] = nil, nil
	}
	return alike && reflect.DeepEqual(r, s)
}

// spoil overwrites all memory of a list.
func spoil[T any](l []T, x T) {
	for l = l[:cap(l)]; len(l) > 0; l = l[1:] {
		l[0] = x
	}
}

func (r results) spoil() {
	spoil(r.owners, "spoiled")
	spoil(r.ranges, span(77, 77))
	for _, l := range r.lists() {
		spoil(*l, 77)
	}
}

// zero checks that with an error nothing else is returned.
func (r results) zero(t *testing.T) {
	t.Helper()
	for i, wrong := range []bool{
		r.errors[0] == api.OK && (r.shipPart != 0 || r.shipAt != 0),
		len(r.owners) != 0,
		len(r.forged) != 0,
		r.errors[3] == api.OK && (r.part != 0 || r.at != 0),
		len(r.pays) != 0 || r.rest != 0,
		len(r.ranges) != 0,
		len(r.sure) != 0,
		r.least != 0,
		len(r.cost) != 0,
	} {
		if wrong && (i == 0 || i == 3 || r.errors[i] != api.OK) {
			t.Errorf("with the error %d function %d returns %+v", r.errors[i], i, r)
		}
	}
}

// wild is an int that is near a limit, or far beyond all of them.
func wild(r *rand.Rand) int {
	return oneOf(r, append(far(), -1, 0, 1, 2, 5, 6, 7, 8, 9, 40000, 40001, billion-1, billion, billion+1)...)
}

// wildName is a name, or any string.
func wildName(r *rand.Rand) string {
	return oneOf(r, append(noNames()[:14], "a", "b", "c", "aa", "c0", "c1", "c7", "tug", strings.Repeat("z", 16))...)
}

// wildArguments is arguments that may have several errors.
func wildArguments(r *rand.Rand) arguments {
	s, x := randomShip(r, 8), randomEstate(r, anySize(r))
	a := arguments{s, randomDay(r, s), oneOf(r, "a", "b", "c", "aa"), x, randomTruth(r, x), r.IntN(len(x.Claims)), randomFurther(r, x)}
	numbers := []*int{&a.ship.Forged, &a.day, &a.estate.Proceeds.Lo, &a.estate.Proceeds.Hi, &a.truth.Proceeds, &a.claim, &a.further.Rank, &a.further.Cents.Lo, &a.further.Cents.Hi}
	names := []*string{&a.ship.First, &a.name, &a.further.Name}
	for i := range a.ship.Papers {
		p := &a.ship.Papers[i]
		numbers, names = append(numbers, &p.Day), append(names, &p.From, &p.To)
	}
	for i := range x.Claims {
		c := &a.estate.Claims[i]
		numbers, names = append(numbers, &c.Rank, &c.Cents.Lo, &c.Cents.Hi, &a.truth.Cents[i]), append(names, &c.Name)
	}
	for range max(0, r.IntN(8)-4) {
		n := oneOf(r, numbers...)
		*n = oneOf(r, wild(r), *n-1, *n+1)
	}
	for range max(0, r.IntN(8)-5) {
		*oneOf(r, names...) = wildName(r)
	}
	spoilLists(r, &a)
	return a
}

// spoilLists makes some lists longer or shorter.
func spoilLists(r *rand.Rand, a *arguments) {
	switch r.IntN(24) {
	case 0:
		a.ship.Papers = append(a.ship.Papers, paper(3, "a", "b"))
	case 1:
		a.ship.Papers = nil
	case 2:
		a.estate.Claims = append(a.estate.Claims, claimOf("more", 1, 0, 0))
	case 3:
		a.estate.Claims = nil
	case 4:
		a.estate.Claims = a.estate.Claims[1:]
	case 5:
		a.truth.Cents = append(a.truth.Cents, 0)
	case 6:
		a.truth.Cents = a.truth.Cents[1:]
	case 7:
		a.truth.Cents = nil
	case 8:
		a.further.Name = oneOf(r, "c0", "c1", "c2")
	}
}

func outOf(n, lo, hi int) bool { return n < lo || n > hi }

var name = regexp.MustCompile(`\A[a-z][a-z0-9]{0,15}\z`)

// first returns the first error.
func first(errors ...api.Errno) api.Errno {
	for _, e := range errors {
		if e != api.OK {
			return e
		}
	}
	return api.OK
}

// when returns an error if something is so.
func when(is bool, e api.Errno) api.Errno {
	if is {
		return e
	}
	return api.OK
}

// faultOfShip is what CheckShip has to return.
func faultOfShip(s api.ClShip) (part, at int, e api.Errno) {
	if e := first(when(!name.MatchString(s.First), api.ErrForm), when(len(s.Papers) > 8, api.ErrLong), when(outOf(s.Forged, 0, 8), api.ErrRange)); e != api.OK {
		return 1, 0, e
	}
	for i, p := range s.Papers {
		none := !name.MatchString(p.From) || !name.MatchString(p.To)
		if e := first(when(outOf(p.Day, 0, 40000), api.ErrRange), when(none, api.ErrForm), when(p.From == p.To, api.ErrArg)); e != api.OK {
			return 2, i, e
		}
	}
	return 0, 0, api.OK
}

// faultOfSpan is the error of a span of cents.
func faultOfSpan(s api.Span) api.Errno {
	return first(when(outOf(s.Lo, 0, billion) || outOf(s.Hi, 0, billion), api.ErrRange), when(s.Lo > s.Hi, api.ErrArg))
}

// faultOfClaims is the first claim with an error, and its error.
func faultOfClaims(l []api.ClClaim) (at int, e api.Errno) {
	met := map[string]bool{}
	for i, c := range l {
		if e := first(when(!name.MatchString(c.Name), api.ErrForm), when(met[c.Name], api.ErrTwice), when(outOf(c.Rank, 1, 5), api.ErrRange), faultOfSpan(c.Cents)); e != api.OK {
			return i, e
		}
		met[c.Name] = true
	}
	return 0, api.OK
}

// faultOf is what Check has to return.
func faultOf(x api.ClEstate) (part, at int, e api.Errno) {
	if e := first(faultOfSpan(x.Proceeds), when(outOf(len(x.Claims), 1, 8), api.ErrLong)); e != api.OK {
		return 1, 0, e
	}
	if at, e := faultOfClaims(x.Claims); e != api.OK {
		return 2, at, e
	}
	return 0, 0, api.OK
}

// faultOfTruth is the error of a truth of an estate without one.
func faultOfTruth(x api.ClEstate, u api.ClTruth) api.Errno {
	if len(u.Cents) != len(x.Claims) {
		return api.ErrLong
	}
	beyond := outOf(u.Proceeds, x.Proceeds.Lo, x.Proceeds.Hi)
	for i, c := range x.Claims {
		beyond = beyond || outOf(u.Cents[i], c.Cents.Lo, c.Cents.Hi)
	}
	return when(beyond, api.ErrRange)
}

// errorsOf is the errors that the functions have to return.
func errorsOf(a arguments) (l [9]api.Errno) {
	_, _, l[0] = faultOfShip(a.ship)
	l[1] = first(l[0], when(outOf(a.day, 0, 40000), api.ErrRange))
	l[2] = l[1]
	if l[1] == api.OK {
		_, l[2] = forgedOf(a.ship, a.day, a.name)
	}
	_, _, e := faultOf(a.estate)
	l[3], l[4], l[5], l[6] = e, e, e, e
	l[7] = first(e, when(outOf(a.claim, 0, len(a.estate.Claims)-1), api.ErrNone))
	if e == api.OK {
		l[4] = faultOfTruth(a.estate, a.truth)
	}
	_, last := faultOfClaims(append(slices.Clone(a.estate.Claims), a.further))
	l[8] = first(l[4], when(len(a.estate.Claims) == 8, api.ErrLong), last, when(a.further.Cents.Lo != a.further.Cents.Hi, api.ErrArg))
	return l
}

// TestAnyArguments is P11.16, P1, R1 and R2: any arguments have the error that is named first, or none; they are not modified, and with an error nothing else is returned.
func TestAnyArguments(t *testing.T) {
	var met [9][10]int
	many(t, 40000, func(r *rand.Rand) {
		a := wildArguments(r)
		before := a.copy()
		got := call(a)
		if !reflect.DeepEqual(a, before) {
			t.Errorf("%+v became %+v", before, a)
		}
		got.zero(t)
		part, at, e := faultOfShip(a.ship)
		shipChecks(t, "any", a.ship, part, at, e)
		part, at, e = faultOf(a.estate)
		checks(t, "any", a.estate, part, at, e)
		want := errorsOf(a)
		for i, e := range got.errors {
			if met[i][e]++; e != want[i] {
				t.Errorf("%+v: function %d has the error %d; want %d", a, i, e, want[i])
			}
		}
	})
	for i, errors := range [9][]api.Errno{
		{api.ErrForm, api.ErrLong, api.ErrRange, api.ErrArg},
		{api.ErrForm, api.ErrLong, api.ErrRange, api.ErrArg},
		{api.ErrForm, api.ErrLong, api.ErrRange, api.ErrArg, api.ErrNone},
		{api.ErrForm, api.ErrLong, api.ErrRange, api.ErrArg, api.ErrTwice},
		{api.ErrForm, api.ErrLong, api.ErrRange, api.ErrArg, api.ErrTwice},
		{api.ErrForm, api.ErrLong, api.ErrRange, api.ErrArg, api.ErrTwice},
		{api.ErrForm, api.ErrLong, api.ErrRange, api.ErrArg, api.ErrTwice},
		{api.ErrForm, api.ErrLong, api.ErrRange, api.ErrArg, api.ErrTwice, api.ErrNone},
		{api.ErrForm, api.ErrLong, api.ErrRange, api.ErrArg, api.ErrTwice},
	} {
		for _, e := range append(errors, api.OK) {
			enough(t, "an error of some function", met[i][e], 100)
		}
	}
}

// TestNewMemory is P11.16, R4 and R5: results share no memory with arguments, with other results, nor with each other, and nothing is kept between calls.
func TestNewMemory(t *testing.T) {
	good := 0
	many(t, 3000, func(r *rand.Rand) {
		a := wildArguments(r)
		before := a.copy()
		got, again := call(a), call(a)
		want := got.copy()
		again.spoil()
		call(wildArguments(r))
		if !got.same(want) || !call(a).same(want) || !reflect.DeepEqual(a, before) {
			t.Errorf("%+v: results share memory", a)
		}
		got.spoil()
		if !call(a).same(want) || !reflect.DeepEqual(a, before) {
			t.Errorf("%+v: results are kept", a)
		}
		if want.errors == [9]api.Errno{} {
			good++
		}
	})
	enough(t, "arguments without an error", good, 300)
}

// TestSpareMemory is R4: what lies in the memory behind the lists of arguments is not changed either.
func TestSpareMemory(t *testing.T) {
	cents := append(make([]int, 0, 9), sampleT().Cents...)
	spare := append(make([]api.ClClaim, 0, 9), sampleE().Claims...)
	x, u := sampleE(), sampleT()
	x.Claims, u.Cents = spare, cents
	costIs(t, "spare memory", x, u, claimOf("tug", 2, 300, 300), ints(0, 116, 58, 0), api.OK)
	if cents[:5][4] != 0 || spare[:5][4] != (api.ClClaim{}) {
		t.Errorf("Cost writes behind its arguments: %v, %v", cents[:5], spare[:5])
	}
}

// TestNilAndEmpty is R3: a nil slice and an empty one are the same value.
func TestNilAndEmpty(t *testing.T) {
	for i, a := range []arguments{
		{ship: shipOf("a", 2), name: "a", estate: sampleE(), truth: truthOf(1000)},
		{ship: shipOf("a", 2), name: "b", estate: estateOf(0, 0), truth: truthOf(0)},
		{ship: shipOf("", 9), estate: estateOf(1, 0), truth: truthOf(-1)},
	} {
		empty := a.copy()
		a.ship.Papers, a.truth.Cents = nil, nil
		empty.ship.Papers, empty.truth.Cents = []api.ClPaper{}, ints()
		if len(a.estate.Claims) == 0 {
			a.estate.Claims, empty.estate.Claims = nil, []api.ClClaim{}
		}
		if !call(a).same(call(empty)) {
			t.Errorf("%d: nil lists and empty ones differ", i)
		}
	}
}
