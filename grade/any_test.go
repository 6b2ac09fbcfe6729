package grade_test

import (
	"math/rand/v2"
	"reflect"
	"slices"
	"testing"

	"orlop/api"
	"orlop/grade"
)

// arguments is what the functions are handed.
type arguments struct {
	heap            api.GrHeap
	plan            api.GrPlan
	n, k            int // of Ways, and of Left
	bad, size, pass int
	most            api.GrShare
	pays            []int
}

// results is what all functions return; the errors are in the order of the functions in the chapter.
type results struct {
	ways            int
	shows           []api.GrShare
	passes, price   [2]api.GrShare
	smallest, worst int
	left            api.Span
	stays           api.GrShare
	errors          [9]api.Errno
}

func call(a arguments) (r results) {
	r.errors[0] = grade.Check(a.heap)
	r.errors[1] = grade.CheckPlan(a.heap, a.plan)
	r.ways, r.errors[2] = grade.Ways(a.n, a.k)
	r.shows, r.errors[3] = grade.Shows(a.heap, a.bad, a.size)
	r.passes[0], r.passes[1], r.errors[4] = grade.Passes(a.heap, a.plan)
	r.smallest, r.errors[5] = grade.Smallest(a.heap, a.pass, a.most)
	r.price[0], r.price[1], r.errors[6] = grade.Price(a.heap, a.pays)
	r.left, r.errors[7] = grade.Left(a.heap, a.n, a.k)
	r.worst, r.stays, r.errors[8] = grade.Worst(a.heap, a.plan)
	return r
}

func (r results) copy() results {
	r.shows = slices.Clone(r.shows)
	return r
}

func (r results) same(s results) bool { return reflect.DeepEqual(r, s) }

// zero checks that with an error nothing else is returned.
func (r results) zero(t *testing.T) {
	t.Helper()
	none := [2]api.GrShare{}
	for i, wrong := range []bool{
		false,
		false,
		r.ways != 0,
		len(r.shows) != 0,
		r.passes != none,
		r.smallest != 0,
		r.price != none,
		r.left != span(0, 0),
		r.worst != 0 || r.stays != share(0, 0),
	} {
		if wrong && r.errors[i] != api.OK {
			t.Errorf("with the error %d function %d returns %v", r.errors[i], i, r)
		}
	}
}

// wild is an int that is near a limit, or far beyond all of them.
func wild(r *rand.Rand) int {
	l := append(far(), 0, 1, 2, 3, 9, 10, 11, 19, 20, 21, 99999, 100000, 100001, 999999, 1000000, 1000001)
	return l[r.IntN(len(l))]
}

// wildArguments is arguments that may have several errors.
func wildArguments(r *rand.Rand) arguments {
	a := arguments{heap: randomHeap(r, api.MaxGrPieces)}
	a.plan, a.pays = randomPlan(r, a.heap), randomPays(r, a.heap)
	a.n = from(r, 0, a.heap.Pieces)
	a.k = from(r, 0, a.n)
	a.bad, a.size, a.pass = from(r, a.heap.Bad.Lo, a.heap.Bad.Hi), from(r, 0, a.heap.Pieces), from(r, 0, a.heap.Pieces)
	a.most.In = from(r, 1, api.MaxGrShare)
	a.most.Of = from(r, 0, a.most.In)
	numbers := []*int{
		&a.heap.Pieces, &a.heap.Bad.Lo, &a.heap.Bad.Hi,
		&a.plan.First, &a.plan.Pass, &a.plan.Fail, &a.plan.Second, &a.plan.Total,
		&a.n, &a.k, &a.bad, &a.size, &a.pass, &a.most.Of, &a.most.In, &a.pays[r.IntN(len(a.pays))],
	}
	for range max(0, r.IntN(8)-3) {
		n := numbers[r.IntN(len(numbers))]
		if r.IntN(2) == 0 {
			*n = wild(r)
		} else {
			*n += r.IntN(5) - 2
		}
	}
	if r.IntN(12) == 0 {
		a.pays = slices.Repeat(a.pays, r.IntN(21))
	}
	return a
}

func out(n, lo, hi int) bool { return n < lo || n > hi }

// first returns the first error.
func first(errors ...api.Errno) api.Errno {
	for _, e := range errors {
		if e != api.OK {
			return e
		}
	}
	return api.OK
}

// when returns an error if something is so.
func when(is bool, e api.Errno) api.Errno {
	if is {
		return e
	}
	return api.OK
}

// errorsOf is the errors that the functions have to return, but that there is no sample, or no heap.
func errorsOf(a arguments) [9]api.Errno {
	h := a.heap
	of := first(when(out(h.Pieces, 1, 20) || out(h.Bad.Lo, 0, h.Pieces) || out(h.Bad.Hi, 0, h.Pieces), api.ErrRange), when(h.Bad.Lo > h.Bad.Hi, api.ErrArg))
	by := first(of, planError(h.Pieces, a.plan))
	pays := slices.ContainsFunc(a.pays, func(n int) bool { return out(n, 0, 100000) })
	return [9]api.Errno{
		of,
		by,
		when(out(a.n, 0, 20) || out(a.k, 0, a.n), api.ErrRange),
		first(of, when(out(a.bad, h.Bad.Lo, h.Bad.Hi) || out(a.size, 0, h.Pieces), api.ErrRange)),
		by,
		first(of, when(out(a.pass, 0, h.Pieces), api.ErrRange), when(out(a.most.In, 1, 1000000) || out(a.most.Of, 0, a.most.In), api.ErrForm)),
		first(of, when(out(len(a.pays), 1, h.Pieces+1), api.ErrLong), when(pays, api.ErrRange)),
		first(of, when(out(a.n, 0, h.Pieces) || out(a.k, 0, a.n), api.ErrRange)),
		by,
	}
}

// TestAnyArguments is P8.15, P1, R1 and R2: any arguments have the error that is named first, or none; they are not modified, and with an error nothing else is returned.
func TestAnyArguments(t *testing.T) {
	var met [9][10]int
	many(t, 20000, func(r *rand.Rand) {
		a := wildArguments(r)
		before := a
		before.pays = slices.Clone(a.pays)
		got := call(a)
		if !reflect.DeepEqual(a, before) {
			t.Errorf("%v became %v", before, a)
		}
		got.zero(t)
		want := errorsOf(a)
		for i, e := range got.errors {
			met[i][e]++
			if down := e == api.ErrDown && want[i] == api.OK && (i == 5 || i == 7); e != want[i] && !down {
				t.Errorf("%+v: function %d has the error %d; want %d", a, i, e, want[i])
			}
		}
	})
	for i, l := range [][]api.Errno{
		{api.ErrRange, api.ErrArg},
		{api.ErrRange, api.ErrArg},
		{api.ErrRange},
		{api.ErrRange, api.ErrArg},
		{api.ErrRange, api.ErrArg},
		{api.ErrRange, api.ErrArg, api.ErrForm, api.ErrDown},
		{api.ErrRange, api.ErrArg, api.ErrLong},
		{api.ErrRange, api.ErrArg, api.ErrDown},
		{api.ErrRange, api.ErrArg},
	} {
		for _, e := range append(l, api.OK) {
			enough(t, "an error of some function", met[i][e], 100)
		}
	}
}

// TestNewMemory is P8.15, R4 and R5: results share no memory with other results, and nothing is kept between calls.
func TestNewMemory(t *testing.T) {
	good := 0
	many(t, 500, func(r *rand.Rand) {
		a := wildArguments(r)
		got, again := call(a), call(a)
		want := got.copy()
		rest := again.shows[:cap(again.shows)]
		for i := range rest {
			rest[i] = share(88, 89)
		}
		call(wildArguments(r))
		if !got.same(want) || !call(a).same(want) {
			t.Errorf("%+v: results share memory", a)
		}
		if want.errors == [9]api.Errno{} {
			good++
		}
	})
	enough(t, "arguments without an error", good, 50)
}

// TestNilAndEmpty is R3: a nil slice and an empty one are the same value.
func TestNilAndEmpty(t *testing.T) {
	for _, h := range []api.GrHeap{sampleH(), {}, heap(10, 4, 2)} {
		a, b := arguments{heap: h}, arguments{heap: h, pays: []int{}}
		if !call(a).same(call(b)) {
			t.Errorf("%v: no pays and empty ones differ", h)
		}
	}
}
