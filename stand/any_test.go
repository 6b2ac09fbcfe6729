package stand_test

import (
	"math/rand/v2"
	"slices"
	"testing"

	"orlop/api"
	"orlop/stand"
)

// arguments is what the functions are handed.
type arguments struct {
	hull        api.StHull
	truth       api.StTruth
	water, part int
	tide        api.Span
	forces      []api.StForce
}

func (a arguments) copy() arguments {
	a.hull, a.truth, a.forces = copyOf(a.hull), copyTruth(a.truth), slices.Clone(a.forces)
	return a
}

func (a arguments) same(b arguments) bool {
	return sameHulls(a.hull, b.hull) && sameTruths(a.truth, b.truth) && a.water == b.water && a.part == b.part && a.tide == b.tide && slices.Equal(a.forces, b.forces)
}

// results is what all functions return.
type results struct {
	part, at       int
	balance, least api.StBalance
	why, water     int
	shown          api.StTruth
	reason         int
	forces         []api.StForce
	bears          bool
	tide, ballast  int
	errors         [9]api.Errno
}

func call(a arguments) (r results) {
	r.part, r.at, r.errors[0] = stand.Check(a.hull)
	r.balance, r.errors[1] = stand.Balance(a.hull, a.truth, a.water)
	r.least, r.errors[2] = stand.Least(a.hull, a.water)
	r.why, r.water, r.errors[3] = stand.Why(a.hull, a.tide)
	r.shown, r.reason, r.errors[4] = stand.Show(a.hull, a.water)
	r.forces, r.errors[5] = stand.Forces(a.hull, a.truth, a.water)
	r.bears, r.errors[6] = stand.Bears(a.hull, a.truth, a.water, a.forces)
	r.tide, r.errors[7] = stand.Tide(a.hull)
	r.ballast, r.errors[8] = stand.Ballast(a.hull, a.part, a.tide)
	return r
}

func (r results) copy() results {
	r.shown, r.forces = copyTruth(r.shown), slices.Clone(r.forces)
	return r
}

func (r results) same(s results) bool {
	return r.part == s.part && r.at == s.at && r.balance == s.balance && r.least == s.least && r.why == s.why && r.water == s.water &&
		sameTruths(r.shown, s.shown) && r.reason == s.reason && slices.Equal(r.forces, s.forces) && r.bears == s.bears &&
		r.tide == s.tide && r.ballast == s.ballast && r.errors == s.errors
}

// zero checks that with an error nothing else is returned.
func (r results) zero(t *testing.T) {
	t.Helper()
	for i, wrong := range []bool{
		(r.errors[0] == api.OK) != (r.part == 0) || r.errors[0] == api.OK && r.at != 0,
		r.balance != bal(0, 0, 0),
		r.least != bal(0, 0, 0),
		r.why != 0 || r.water != 0,
		len(r.shown.Weights) != 0 || len(r.shown.Lifts) != 0 || r.reason != 0,
		len(r.forces) != 0,
		r.bears,
		r.tide != 0,
		r.ballast != 0,
	} {
		if wrong && (i == 0 || r.errors[i] != api.OK) {
			t.Errorf("with the error %d function %d returns %v", r.errors[i], i, r)
		}
	}
	if r.why == api.StStands && r.water != 0 {
		t.Errorf("a hull that stands has the height %d", r.water)
	}
}

// wild is an int that is near a limit, or far beyond all of them.
func wild(r *rand.Rand) int {
	l := append(far(), 0, 1, 999, 1000, 1001, 4999, 5000, 5001, 999999, 1000000, 1000001)
	return l[r.IntN(len(l))]
}

// setWild makes one number of a hull wild.
func setWild(r *rand.Rand, h *api.StHull) {
	if len(h.Parts) == 0 || r.IntN(6) == 0 {
		*[]*int{&h.Aft, &h.Fore}[r.IntN(2)] = wild(r)
		return
	}
	x := &h.Parts[r.IntN(len(h.Parts))]
	*[]*int{&x.At, &x.Keel, &x.Weight.Lo, &x.Weight.Hi, &x.Lift.Lo, &x.Lift.Hi}[r.IntN(6)] = wild(r)
}

// wildHull is a hull that may have several errors.
func wildHull(r *rand.Rand) api.StHull {
	h := anyHull(r)
	for range max(0, r.IntN(6)-2) {
		switch r.IntN(4) {
		case 0:
			h.Parts = append(h.Parts, anyHull(r).Parts...)
		case 1:
			x := &h.Parts[r.IntN(len(h.Parts))]
			x.Name = []string{"", "A", "a b", "abcdefghijklmnopq", "a", "\x00"}[r.IntN(6)]
		default:
			setWild(r, &h)
		}
	}
	if r.IntN(40) == 0 {
		h.Parts = nil
	}
	return h
}

// wildTruth is a truth of a hull that may have errors.
func wildTruth(r *rand.Rand, h api.StHull) (t api.StTruth) {
	for _, x := range h.Parts {
		t.Weights = append(t.Weights, ints(x.Weight.Lo, x.Weight.Hi)[r.IntN(2)])
		t.Lifts = append(t.Lifts, ints(x.Lift.Lo, x.Lift.Hi)[r.IntN(2)])
	}
	if r.IntN(2) == 0 || len(h.Parts) == 0 {
		return t
	}
	i := r.IntN(len(h.Parts))
	switch r.IntN(6) {
	case 0:
		t.Weights = t.Weights[:i]
	case 1:
		t.Lifts = append(t.Lifts, wild(r))
	case 2:
		t.Weights[i] = wild(r)
	case 3:
		t.Lifts[i] = wild(r)
	case 4:
		t.Weights[i] += r.IntN(3) - 1
	case 5:
		t.Lifts[i] += r.IntN(3) - 1
	}
	return t
}

func wildArguments(r *rand.Rand) arguments {
	a := arguments{hull: wildHull(r), water: r.IntN(api.MaxStWater + 1)}
	a.truth = wildTruth(r, a.hull)
	a.part = r.IntN(len(a.hull.Parts) + 1)
	a.tide = randomSpan(r, 0, api.MaxStWater, 1+r.IntN(30))
	for range r.IntN(6) {
		a.forces = append(a.forces, force(a.hull.Aft, wild(r)))
	}
	if r.IntN(8) == 0 {
		a.forces = make([]api.StForce, 11+r.IntN(3))
	}
	for _, n := range []*int{&a.water, &a.part, &a.tide.Lo, &a.tide.Hi} {
		if r.IntN(8) == 0 {
			*n = wild(r)
		}
	}
	return a
}

// first returns the first error.
func first(errors ...api.Errno) api.Errno {
	for _, e := range errors {
		if e != api.OK {
			return e
		}
	}
	return api.OK
}

// when returns an error if something is so.
func when(is bool, e api.Errno) api.Errno {
	if is {
		return e
	}
	return api.OK
}

func out(n, lo, hi int) bool { return n < lo || n > hi }

// isName is whether a string is a name, as the tests' hulls have them.
func isName(s string) bool {
	return s != "" && s != "A" && s != "a b" && s != "\x00" && len(s) <= api.MaxName
}

// errorOfHull is what Check has to return.
func errorOfHull(h api.StHull) (part, at int, e api.Errno) {
	n := len(h.Parts)
	if e := first(when(out(n, 1, 10), api.ErrLong), when(out(h.Aft, 0, 5000) || out(h.Fore, 0, 5000), api.ErrRange), when(h.Aft >= h.Fore, api.ErrArg)); e != api.OK {
		return 1, 0, e
	}
	for i, x := range h.Parts {
		twice := false
		for _, y := range h.Parts[:i] {
			twice = twice || y.Name == x.Name
		}
		beyond := out(x.At, 0, 5000) || out(x.Keel, 0, 1000) || out(x.Weight.Lo, 0, 1000000) || out(x.Weight.Hi, 0, 1000000) || out(x.Lift.Lo, 0, 5000) || out(x.Lift.Hi, 0, 5000)
		turned := x.Weight.Lo > x.Weight.Hi || x.Lift.Lo > x.Lift.Hi
		if e := first(when(!isName(x.Name), api.ErrForm), when(twice, api.ErrTwice), when(beyond, api.ErrRange), when(turned, api.ErrArg)); e != api.OK {
			return 2, i, e
		}
	}
	return 0, 0, api.OK
}

// errorOfTruth is the error of the truth.
func errorOfTruth(h api.StHull, t api.StTruth) api.Errno {
	if len(t.Weights) != len(h.Parts) || len(t.Lifts) != len(h.Parts) {
		return api.ErrLong
	}
	for i, x := range h.Parts {
		if out(t.Weights[i], x.Weight.Lo, x.Weight.Hi) || out(t.Lifts[i], x.Lift.Lo, x.Lift.Hi) {
			return api.ErrRange
		}
	}
	return api.OK
}

// errorsOf is the errors that all functions have to return.
func errorsOf(a arguments) (l [9]api.Errno) {
	h := a.hull
	if _, _, e := errorOfHull(h); e != api.OK {
		return [9]api.Errno{e, e, e, e, e, e, e, e, e}
	}
	water := when(out(a.water, 0, 1000), api.ErrRange)
	truth := first(errorOfTruth(h, a.truth), water)
	tide := first(when(out(a.tide.Lo, 0, 1000) || out(a.tide.Hi, 0, 1000), api.ErrRange), when(a.tide.Lo > a.tide.Hi, api.ErrArg))
	falls := truth == api.OK && reason(balance(h, a.truth, a.water)) != api.StStands
	part := when(out(a.part, 0, len(h.Parts)-1), api.ErrNone)
	if part == api.OK {
		part = first(when(out(h.Parts[a.part].At, h.Aft, h.Fore), api.ErrArg), tide)
	}
	if part == api.OK {
		part = when(!surely(loaded(h, a.part, 1000000), a.tide), api.ErrDown)
	}
	return [9]api.Errno{
		api.OK,
		truth,
		water,
		tide,
		water,
		first(truth, when(falls, api.ErrDown)),
		first(truth, when(len(a.forces) > 10, api.ErrLong)),
		when(!surely(h, span(0, 0)), api.ErrDown),
		part,
	}
}

// TestAnyArguments is P5.15, P1, R1 and R2: any arguments have the error that is named first, or none; they are not modified, and with an error nothing else is returned.
func TestAnyArguments(t *testing.T) {
	var met [9][10]int
	many(t, 6000, func(r *rand.Rand) {
		a := wildArguments(r)
		before := a.copy()
		got := call(a)
		if !a.same(before) {
			t.Errorf("%v became %v", before, a)
		}
		got.zero(t)
		if part, at, _ := errorOfHull(a.hull); got.part != part || got.at != at {
			t.Errorf("%v: Check = %d, %d; want %d, %d", a.hull, got.part, got.at, part, at)
		}
		want := errorsOf(a)
		if got.errors != want {
			t.Errorf("%v: the errors are %v; want %v", a, got.errors, want)
		}
		for i, e := range want {
			met[i][e]++
		}
	})
	hull := []api.Errno{api.OK, api.ErrLong, api.ErrForm, api.ErrTwice, api.ErrRange, api.ErrArg}
	for i, l := range [9][]api.Errno{5: {api.ErrDown}, 7: {api.ErrDown}, 8: {api.ErrNone, api.ErrDown}} {
		for _, e := range append(l, hull...) {
			enough(t, "an error of some function", met[i][e], 10)
		}
	}
}

// TestNewMemory is P5.15, R4 and R5: results share no memory with arguments or with other results, and nothing is kept between calls.
func TestNewMemory(t *testing.T) {
	standing := 0
	many(t, 1000, func(r *rand.Rand) {
		h := anyHull(r)
		a := arguments{hull: h, truth: randomTruth(r, h), water: r.IntN(20), part: r.IntN(len(h.Parts)), tide: randomTide(r, h)}
		a.forces, _ = stand.Forces(h, a.truth, a.water)
		before := a.copy()
		got, again := call(a), call(a)
		want := got.copy()
		again.spoil()
		if !got.same(want) || !a.same(before) {
			t.Errorf("%v: results share memory", before)
		}
		spoil(a.hull.Parts, api.StPart{Name: "x"})
		spoil(a.truth.Weights, 88)
		spoil(a.truth.Lifts, 88)
		spoil(a.forces, force(8, 8))
		if !got.same(want) {
			t.Errorf("%v: a result shares memory with an argument", before)
		}
		if s := call(before); !s.same(want) {
			t.Errorf("%v: the results are %v; want %v", before, s, want)
		}
		spoil(got.shown.Weights, 88)
		if !slices.Equal(got.shown.Lifts, want.shown.Lifts) {
			t.Errorf("%v: both lists of a truth share memory", before)
		}
		if want.bears {
			standing++
		}
	})
	enough(t, "forces", standing, 200)
}

// spoil changes all elements of a list, and what is behind them in its memory.
func spoil[T any](l []T, x T) {
	l = l[:cap(l)]
	for i := range l {
		l[i] = x
	}
}

// spoil changes all lists of the results.
func (r results) spoil() {
	spoil(r.shown.Weights, 88)
	spoil(r.shown.Lifts, 88)
	spoil(r.forces, force(8, 8))
}
