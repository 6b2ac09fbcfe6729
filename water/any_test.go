package water_test

import (
	"math/rand/v2"
	"reflect"
	"regexp"
	"slices"
	"strings"
	"testing"

	"orlop/api"
	"orlop/water"
)

// arguments is what the functions are handed.
type arguments struct {
	shore  api.WtShore
	list   []api.WtSample
	sample int
	places []int
}

func (a arguments) copy() arguments {
	return arguments{copyShore(a.shore), slices.Clone(a.list), a.sample, slices.Clone(a.places)}
}

// results is what all functions return; the errors are in the order of the functions in the chapter.
type results struct {
	part, at                   int
	agree                      bool
	can, sources, must, fewest []int
	asked                      asked
	errors                     [6]api.Errno
	ask                        api.Errno
}

func call(a arguments) (r results) {
	r.part, r.at, r.errors[0] = water.Check(a.shore)
	r.agree, r.errors[1] = water.Agree(a.shore, a.list)
	r.can, r.errors[2] = water.Can(a.shore, a.list, a.sample)
	r.sources, r.errors[3] = water.Sources(a.shore, a.list)
	r.must, r.errors[4] = water.Must(a.shore, a.list)
	r.fewest, r.errors[5] = water.Fewest(a.shore, a.list)
	r.asked.at, r.asked.tide, r.asked.kind, r.asked.left, r.ask = water.Ask(a.shore, a.list, a.sample, a.places)
	return r
}

// lists is the lists of ints.
func (r *results) lists() []*[]int { return []*[]int{&r.can, &r.sources, &r.must, &r.fewest} }

func (r results) copy() results {
	for _, l := range r.lists() {
		*l = slices.Clone(*l)
	}
	return r
}

// same is whether results are the same; a nil list and an empty one are.
func (r results) same(s results) bool {
	alike := true
	a, b := r.lists(), s.lists()
	for i := range a {
		alike = alike && slices.Equal(*a[i], *b[i])
		*a[i], *b[i] = nil, nil
	}
	return alike && reflect.DeepEqual(r, s)
}

// spoil overwrites all memory of the results.
func (r results) spoil() {
	for _, p := range r.lists() {
		for l := (*p)[:cap(*p)]; len(l) > 0; l = l[1:] {
			l[0] = 77
		}
	}
}

// zero checks that with an error nothing else is returned.
func (r results) zero(t *testing.T) {
	t.Helper()
	for i, wrong := range []bool{
		r.errors[0] == api.OK && (r.part != 0 || r.at != 0),
		r.agree,
		len(r.can) != 0,
		len(r.sources) != 0,
		len(r.must) != 0,
		len(r.fewest) != 0,
	} {
		if wrong && (i == 0 || r.errors[i] != api.OK) {
			t.Errorf("with the error %d function %d returns %+v", r.errors[i], i, r)
		}
	}
	if r.ask != api.OK && r.asked != (asked{}) {
		t.Errorf("with the error %d Ask returns %+v", r.ask, r.asked)
	}
}

// wild is an int that is near a limit, or far beyond all of them.
func wild(r *rand.Rand) int {
	return oneOf(r, append(far(), -11, -10, -1, 0, 1, 2, 3, 4, 5, 6, 7, 8, 9, 10, 11, 99, 100, 101)...)
}

// wildName is a name, or any string.
func wildName(r *rand.Rand) string {
	return oneOf(r, append(noNames()[:14], "a", "ya", "yb", "yc", strings.Repeat("z", 16))...)
}

// wildArguments is arguments that may have several errors.
func wildArguments(r *rand.Rand) arguments {
	q := randomQuestion(r)
	a := arguments{q.s, q.l, q.sample, q.places}
	numbers, names := []*int{&a.shore.Spread, &a.sample}, []*string{}
	for i := range a.shore.Yards {
		y := &a.shore.Yards[i]
		numbers, names = append(numbers, &y.At, &y.Kinds), append(names, &y.Name)
	}
	for i := range a.shore.Drifts {
		numbers = append(numbers, &a.shore.Drifts[i].Lo, &a.shore.Drifts[i].Hi)
	}
	for i := range a.list {
		x := &a.list[i]
		numbers = append(numbers, &x.Place, &x.Tide, &x.Kind)
	}
	for i := range a.places {
		numbers = append(numbers, &a.places[i])
	}
	for range max(0, r.IntN(8)-4) {
		n := oneOf(r, numbers...)
		*n = oneOf(r, wild(r), *n-1, *n+1)
	}
	if r.IntN(6) == 0 {
		*oneOf(r, names...) = wildName(r)
	}
	if r.IntN(6) == 0 {
		a.sample = r.IntN(9) - 1
	}
	spoilLists(r, &a)
	return a
}

// spoilLists makes some lists longer or shorter.
func spoilLists(r *rand.Rand, a *arguments) {
	switch r.IntN(24) {
	case 0:
		a.shore.Yards = append(a.shore.Yards, yard("more", 3, 3), yard("most", 4, 3))
	case 1:
		a.shore.Yards = nil
	case 2:
		a.shore.Drifts = append(a.shore.Drifts, span(0, 1), span(0, 2))
	case 3:
		a.shore.Drifts = nil
	case 4:
		a.shore.Drifts = a.shore.Drifts[1:]
	case 5:
		for range from(r, 1, 9) {
			a.list = append(a.list, a.list[0])
		}
	case 6:
		a.list = nil
	case 7:
		a.places = append(a.places, from(r, 0, 100), 7)
	case 8:
		a.places = nil
	}
}

func outOf(n, lo, hi int) bool { return n < lo || n > hi }

var name = regexp.MustCompile(`\A[a-z][a-z0-9]{0,15}\z`)

// first returns the first error.
func first(errors ...api.Errno) api.Errno {
	for _, e := range errors {
		if e != api.OK {
			return e
		}
	}
	return api.OK
}

// when returns an error if something is so.
func when(is bool, e api.Errno) api.Errno {
	if is {
		return e
	}
	return api.OK
}

// faultOf is what Check has to return.
func faultOf(s api.WtShore) (part, at int, e api.Errno) {
	long := outOf(len(s.Yards), 1, 5) || outOf(len(s.Drifts), 1, 3)
	if e := first(when(long, api.ErrLong), when(outOf(s.Spread, 0, 10), api.ErrRange)); e != api.OK {
		return 1, 0, e
	}
	met := map[string]bool{}
	for i, y := range s.Yards {
		beyond := outOf(y.At, 0, 100) || outOf(y.Kinds, 0, 3)
		if e := first(when(!name.MatchString(y.Name), api.ErrForm), when(met[y.Name], api.ErrTwice), when(beyond, api.ErrRange)); e != api.OK {
			return 2, i, e
		}
		met[y.Name] = true
	}
	for i, d := range s.Drifts {
		beyond := outOf(d.Lo, -10, 10) || outOf(d.Hi, -10, 10)
		if e := first(when(beyond, api.ErrRange), when(d.Lo > d.Hi || d.Hi > d.Lo+6, api.ErrArg)); e != api.OK {
			return 3, i, e
		}
	}
	return 0, 0, api.OK
}

// faultOfList is the error of samples along a shore.
func faultOfList(s api.WtShore, l []api.WtSample) api.Errno {
	if len(l) > 8 {
		return api.ErrLong
	}
	for _, x := range l {
		none := outOf(x.Tide, 0, len(s.Drifts)-1) || outOf(x.Kind, 0, 1)
		if e := first(when(none, api.ErrNone), when(outOf(x.Place, 0, 100), api.ErrRange)); e != api.OK {
			return e
		}
	}
	return api.OK
}

// errorsOf is the errors that the functions have to return, the last one that of Ask.
func errorsOf(a arguments) (l [6]api.Errno, ask api.Errno) {
	_, _, l[0] = faultOf(a.shore)
	l[1] = first(l[0], faultOfList(a.shore, a.list))
	if l[1] != api.OK {
		l[2], l[3], l[4], l[5] = l[1], l[1], l[1], l[1]
		return l, l[1]
	}
	down := when(!agreeOf(a.shore, a.list), api.ErrDown)
	l[3], l[4], l[5] = down, down, down
	number := when(outOf(a.sample, 0, len(a.list)-1), api.ErrNone)
	if number == api.OK {
		number = when(!a.list[a.sample].Found, api.ErrArg)
	}
	l[2] = first(number, down)
	long := len(a.list) == 8 || outOf(len(a.places), 1, 4)
	beyond := slices.ContainsFunc(a.places, func(n int) bool { return outOf(n, 0, 100) })
	return l, first(number, when(long, api.ErrLong), when(beyond, api.ErrRange), down)
}

// TestAnyArguments is P12.14, P1, R1 and R2: any arguments have the error that is named first, or none; they are not modified, and with an error nothing else is returned.
func TestAnyArguments(t *testing.T) {
	var met [7][10]int
	many(t, 5000, func(r *rand.Rand) {
		a := wildArguments(r)
		before := a.copy()
		got := call(a)
		if !reflect.DeepEqual(a, before) {
			t.Errorf("%+v became %+v", before, a)
		}
		got.zero(t)
		part, at, e := faultOf(a.shore)
		checks(t, "any", a.shore, part, at, e)
		want, ask := errorsOf(a)
		if got.errors != want || got.ask != ask {
			t.Errorf("%+v: the errors %d, %d; want %d, %d", a, got.errors, got.ask, want, ask)
		}
		for i, e := range got.errors {
			met[i][e]++
		}
		met[6][got.ask]++
	})
	shore := []api.Errno{api.OK, api.ErrLong, api.ErrRange, api.ErrForm, api.ErrTwice, api.ErrArg}
	list := append(shore, api.ErrNone)
	down := append(list, api.ErrDown)
	for i, errors := range [7][]api.Errno{shore, list, down, down, down, down, down} {
		for _, e := range errors {
			enough(t, "an error of some function", met[i][e], 10)
		}
	}
}

// TestNewMemory is P12.14, R4 and R5: results share no memory with arguments, with other results, nor with each other, and nothing is kept between calls.
func TestNewMemory(t *testing.T) {
	good := 0
	many(t, 1000, func(r *rand.Rand) {
		a := wildArguments(r)
		before := a.copy()
		got, again := call(a), call(a)
		want := got.copy()
		again.spoil()
		call(wildArguments(r))
		if !got.same(want) || !call(a).same(want) || !reflect.DeepEqual(a, before) {
			t.Errorf("%+v: results share memory", a)
		}
		got.spoil()
		if !call(a).same(want) || !reflect.DeepEqual(a, before) {
			t.Errorf("%+v: results are kept", a)
		}
		if want.errors == [6]api.Errno{} && want.ask == api.OK {
			good++
		}
	})
	enough(t, "arguments without an error", good, 300)
}

// TestSpareMemory is R4: what lies in the memory behind the lists of arguments is not changed either.
func TestSpareMemory(t *testing.T) {
	list := append(make([]api.WtSample, 0, 9), sampleF())
	where := append(make([]int, 0, 9), 12, 24)
	askIs(t, "spare memory", sampleS(), list, 0, where, asked{1, 0, 0, 1}, api.OK)
	if list[:2][1] != (api.WtSample{}) || where[:3][2] != 0 {
		t.Errorf("Ask writes behind its arguments: %v, %v", list[:2], where[:3])
	}
}

// TestNilAndEmpty is R3: a nil slice and an empty one are the same value.
func TestNilAndEmpty(t *testing.T) {
	for i, a := range []arguments{
		{shore: sampleS()},
		{shore: sampleS(), list: samples(sampleF())},
		{shore: sampleS(), places: ints(1)},
		{shore: calm(3, ints(0))},
		{shore: calm(3, nil, yard("a", 1, 1))},
		{},
	} {
		empty := a.copy()
		if len(a.list) == 0 {
			a.list, empty.list = nil, samples()
		}
		if len(a.places) == 0 {
			a.places, empty.places = nil, []int{}
		}
		if len(a.shore.Yards) == 0 {
			a.shore.Yards, empty.shore.Yards = nil, []api.WtYard{}
		}
		if len(a.shore.Drifts) == 0 {
			a.shore.Drifts, empty.shore.Drifts = nil, []api.Span{}
		}
		if !call(a).same(call(empty)) {
			t.Errorf("%d: nil lists and empty ones differ", i)
		}
	}
}
