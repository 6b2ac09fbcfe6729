package waste_test

import (
	"math/rand/v2"
	"reflect"
	"regexp"
	"slices"
	"strings"
	"testing"

	"orlop/api"
	"orlop/waste"
)

// arguments is what the functions are handed.
type arguments struct {
	yard        api.WaYard
	wrong       []int
	proof       api.WaProof
	paper, kind int
	text        string
}

func (a arguments) copy() arguments {
	a.yard, a.wrong = copyOf(a.yard), slices.Clone(a.wrong)
	return a
}

// results is what all functions return; the errors are in the order of the functions in the chapter.
type results struct {
	part, at          int
	closes, proves    bool
	why               api.WaProof
	fewest, must, may []int
	span, gone        api.Span
	text              string
	yard              api.WaYard
	errors            [11]api.Errno
}

func call(a arguments) (r results) {
	r.part, r.at, r.errors[0] = waste.Check(a.yard)
	r.closes, r.errors[1] = waste.Closes(a.yard, a.wrong)
	r.why, r.errors[2] = waste.Why(a.yard, a.wrong)
	r.proves, r.errors[3] = waste.Proves(a.yard, a.wrong, a.proof)
	r.fewest, r.errors[4] = waste.Fewest(a.yard)
	r.must, r.errors[5] = waste.Must(a.yard)
	r.may, r.errors[6] = waste.May(a.yard)
	r.span, r.errors[7] = waste.Range(a.yard, a.wrong, a.paper)
	r.gone, r.errors[8] = waste.Gone(a.yard, a.wrong, a.kind)
	r.text, r.errors[9] = waste.Write(a.yard)
	r.yard, r.errors[10] = waste.Read(a.text)
	return r
}

func (r results) copy() results {
	r.fewest, r.must, r.may = slices.Clone(r.fewest), slices.Clone(r.must), slices.Clone(r.may)
	r.yard = copyOf(r.yard)
	return r
}

// same is whether results are the same; a nil list and an empty one are.
func (r results) same(s results) bool {
	lists := slices.Equal(r.fewest, s.fewest) && slices.Equal(r.must, s.must) && slices.Equal(r.may, s.may) && sameYards(r.yard, s.yard)
	none := func(x results) results {
		x.fewest, x.must, x.may, x.yard = nil, nil, nil, api.WaYard{}
		return x
	}
	return lists && reflect.DeepEqual(none(r), none(s))
}

// spoil overwrites all memory of the results.
func (r results) spoil() {
	for _, l := range [][]int{r.fewest, r.must, r.may} {
		spoil(l, 77)
	}
	spoil(r.yard.Kinds, "spoiled")
	spoil(r.yard.Places, "spoiled")
	spoil(r.yard.First, count(9, 9, 9, 9))
	spoil(r.yard.Papers, paper(9, 9, 9, 9, 9))
	spoil(r.yard.Last, count(8, 8, 8, 8))
}

func spoil[T any](l []T, x T) {
	for l = l[:cap(l)]; len(l) > 0; l = l[1:] {
		l[0] = x
	}
}

// zero checks that with an error nothing else is returned.
func (r results) zero(t *testing.T) {
	t.Helper()
	for i, wrong := range []bool{
		r.errors[0] == api.OK && (r.part != 0 || r.at != 0),
		r.closes,
		r.why != api.WaProof{},
		r.proves,
		len(r.fewest) != 0,
		len(r.must) != 0,
		len(r.may) != 0,
		r.span != span(0, 0),
		r.gone != span(0, 0),
		r.text != "",
		!sameYards(r.yard, api.WaYard{}),
	} {
		if wrong && (i == 0 || r.errors[i] != api.OK) {
			t.Errorf("with the error %d function %d returns %+v", r.errors[i], i, r)
		}
	}
}

// wild is an int that is near a limit, or far beyond all of them.
func wild(r *rand.Rand) int {
	l := append(far(), -1, 0, 1, 2, 3, 4, 5, 9, 10, 11, 999999, 1000000, 1000001)
	return l[r.IntN(len(l))]
}

// wildArguments is arguments that may have several errors.
func wildArguments(r *rand.Rand) arguments {
	var a arguments
	a.yard = randomYard(r, randomSize(r, 5))
	a.wrong = randomWrong(r, a.yard)
	if l := proofsOf(a.yard, a.wrong); len(l) > 0 {
		a.proof = l[r.IntN(len(l))]
	}
	a.paper, a.kind = r.IntN(len(a.yard.Papers)+1), r.IntN(len(a.yard.Kinds))
	a.text = told(a.yard)
	numbers := []*int{&a.proof.Paper, &a.proof.Kind, &a.proof.Places, &a.proof.Over, &a.paper, &a.kind}
	for i := range a.wrong {
		numbers = append(numbers, &a.wrong[i])
	}
	for _, l := range [][]api.WaCount{a.yard.First, a.yard.Last} {
		for i := range l {
			numbers = append(numbers, &l[i].Kind, &l[i].Place, &l[i].Kilos.Lo, &l[i].Kilos.Hi)
		}
	}
	for i := range a.yard.Papers {
		p := &a.yard.Papers[i]
		numbers = append(numbers, &p.Kind, &p.From, &p.To, &p.Kilos, &p.Copy)
	}
	for range max(0, r.IntN(8)-3) {
		n := numbers[r.IntN(len(numbers))]
		if r.IntN(2) == 0 {
			*n = wild(r)
		} else {
			*n += r.IntN(5) - 2
		}
	}
	spoilLists(r, &a)
	return a
}

// spoilLists makes some lists longer or shorter, and some names others.
func spoilLists(r *rand.Rand, a *arguments) {
	names := []string{"", "k0", "p0", "p1", "-", "K", "9", strings.Repeat("z", 16), strings.Repeat("z", 17), "\xff"}
	y := &a.yard
	switch r.IntN(40) {
	case 0:
		y.Kinds[r.IntN(len(y.Kinds))] = names[r.IntN(len(names))]
	case 1:
		y.Places[r.IntN(len(y.Places))] = names[r.IntN(len(names))]
	case 2:
		y.Kinds = append(y.Kinds, names[r.IntN(len(names))])
	case 3:
		y.Places = append(y.Places, names[r.IntN(len(names))])
	case 4:
		y.Kinds = y.Kinds[1:]
	case 5:
		y.Papers = slices.Repeat(y.Papers, r.IntN(6))
	case 6:
		y.First = slices.Repeat(y.First, r.IntN(4))
	case 7:
		y.Last = slices.Repeat(y.Last, r.IntN(4))
	case 8:
		a.wrong = slices.Repeat(a.wrong, r.IntN(3))
	case 9:
		slices.Reverse(a.wrong)
	case 10:
		y.First = append(y.First, y.Last...)
	case 11:
		y.Last = append(y.Last, y.First...)
	case 12:
		a.text = spoiled(r, a.text)
	case 13:
		a.text += strings.Repeat("\n", 3999-len(a.text)+r.IntN(4))
	}
}

func outOf(n, lo, hi int) bool { return n < lo || n > hi }

var name = regexp.MustCompile(`\A[a-z][a-z0-9]{0,15}\z`)

// namesFault is the first name of a list with an error, and this error.
func namesFault(l []string) (at int, e api.Errno) {
	for i, s := range l {
		if !name.MatchString(s) {
			return i, api.ErrForm
		}
		if slices.Index(l, s) < i {
			return i, api.ErrTwice
		}
	}
	return 0, api.OK
}

// countsFault is the first count of a list with an error, and this error.
func countsFault(y api.WaYard, l []api.WaCount) (at int, e api.Errno) {
	for i, c := range l {
		twice := false
		for _, d := range l[:i] {
			twice = twice || d.Kind == c.Kind && d.Place == c.Place
		}
		switch {
		case outOf(c.Kind, 0, len(y.Kinds)-1) || outOf(c.Place, 0, len(y.Places)-1):
			return i, api.ErrNone
		case twice:
			return i, api.ErrTwice
		case outOf(c.Kilos.Lo, 0, 1000000) || outOf(c.Kilos.Hi, 0, 1000000):
			return i, api.ErrRange
		case c.Kilos.Lo > c.Kilos.Hi:
			return i, api.ErrArg
		}
	}
	return 0, api.OK
}

// papersFault is the first paper of a yard with an error, and this error.
func papersFault(y api.WaYard) (at int, e api.Errno) {
	for i, p := range y.Papers {
		other := true
		if p.Copy != -1 {
			other = !outOf(p.Copy, 0, len(y.Papers)-1) && p.Copy != i
			if other {
				q := y.Papers[p.Copy]
				other = q.Kind == p.Kind && q.From == p.From && q.To == p.To && q.Copy == i
			}
		}
		switch {
		case outOf(p.Kind, 0, len(y.Kinds)-1) || outOf(p.From, -1, len(y.Places)-1) || outOf(p.To, -1, len(y.Places)-1):
			return i, api.ErrNone
		case p.From == p.To:
			return i, api.ErrArg
		case outOf(p.Kilos, 0, 1000000):
			return i, api.ErrRange
		case !other:
			return i, api.ErrDown
		}
	}
	return 0, api.OK
}

// faultOf is what Check has to return.
func faultOf(y api.WaYard) (part, at int, e api.Errno) {
	if outOf(len(y.Kinds), 1, 4) || outOf(len(y.Places), 1, 4) || len(y.Papers) > 10 || len(y.First) > 8 || len(y.Last) > 8 {
		return 1, 0, api.ErrLong
	}
	for i, fault := range []func() (int, api.Errno){
		func() (int, api.Errno) { return namesFault(y.Kinds) },
		func() (int, api.Errno) { return namesFault(y.Places) },
		func() (int, api.Errno) { return countsFault(y, y.First) },
		func() (int, api.Errno) { return papersFault(y) },
		func() (int, api.Errno) { return countsFault(y, y.Last) },
	} {
		if at, e := fault(); e != api.OK {
			return i + 2, at, e
		}
	}
	return 0, 0, api.OK
}

// wrongFault is the error of papers that are false.
func wrongFault(y api.WaYard, wrong []int) api.Errno {
	for i, n := range wrong {
		if outOf(n, 0, len(y.Papers)-1) {
			return api.ErrNone
		}
		if i > 0 && n <= wrong[i-1] {
			return api.ErrArg
		}
	}
	return api.OK
}

// first returns the first error.
func first(errors ...api.Errno) api.Errno {
	for _, e := range errors {
		if e != api.OK {
			return e
		}
	}
	return api.OK
}

// when returns an error if something is so.
func when(is bool, e api.Errno) api.Errno {
	if is {
		return e
	}
	return api.OK
}

// errorsOf is the errors that the functions have to return.
func errorsOf(a arguments) [11]api.Errno {
	y := a.yard
	_, _, of := faultOf(y)
	by := first(of, wrongFault(y, a.wrong))
	var can, closes bool
	if of == api.OK {
		_, can = truthOf(y, allOf(y))
	}
	if by == api.OK {
		_, closes = truthOf(y, a.wrong)
	}
	down, open := first(of, when(!can, api.ErrDown)), when(!closes, api.ErrDown)
	_, is := tells(a.text)
	return [11]api.Errno{
		of,
		by,
		first(by, when(closes, api.ErrNone)),
		by,
		down,
		down,
		down,
		first(by, when(outOf(a.paper, 0, len(y.Papers)-1), api.ErrNone), open),
		first(by, when(outOf(a.kind, 0, len(y.Kinds)-1), api.ErrNone), open),
		of,
		first(when(len(a.text) > 4000, api.ErrLong), when(!is, api.ErrForm)),
	}
}

// TestAnyArguments is P9.14, P1, R1 and R2: any arguments have the error that is named first, or none; they are not modified, and with an error nothing else is returned.
func TestAnyArguments(t *testing.T) {
	var met [11][10]int
	many(t, 12000, func(r *rand.Rand) {
		a := wildArguments(r)
		before := a.copy()
		got := call(a)
		if !reflect.DeepEqual(a, before) {
			t.Errorf("%+v became %+v", before, a)
		}
		got.zero(t)
		part, at, e := faultOf(a.yard)
		checks(t, "any", a.yard, part, at, e)
		want := errorsOf(a)
		for i, e := range got.errors {
			if met[i][e]++; e != want[i] {
				t.Errorf("%+v: function %d has the error %d; want %d", a, i, e, want[i])
			}
		}
		if want[3] == api.OK {
			same(t, "Proves", got.proves, isProof(a.yard, a.wrong, a.proof))
		}
	})
	check := []api.Errno{api.ErrLong, api.ErrForm, api.ErrTwice, api.ErrNone, api.ErrRange, api.ErrArg, api.ErrDown}
	for i := range met {
		of := check
		if i == 10 {
			of = []api.Errno{api.ErrLong, api.ErrForm}
		}
		for _, e := range append(of, api.OK) {
			enough(t, "an error of some function", met[i][e], 50)
		}
	}
}

// TestNewMemory is P9.14, R4 and R5: results share no memory with other results, nor with each other, and nothing is kept between calls.
func TestNewMemory(t *testing.T) {
	good := 0
	many(t, 500, func(r *rand.Rand) {
		a := wildArguments(r)
		before := a.copy()
		got, again := call(a), call(a)
		want := got.copy()
		again.spoil()
		call(wildArguments(r))
		if !got.same(want) || !call(a).same(want) || !reflect.DeepEqual(a, before) {
			t.Errorf("%+v: results share memory", a)
		}
		spoil(got.yard.Kinds, "spoiled")
		spoil(got.yard.First, count(9, 9, 9, 9))
		if !slices.Equal(got.yard.Places, want.yard.Places) || !slices.Equal(got.yard.Last, want.yard.Last) {
			t.Errorf("%+v: the lists of a yard share memory", a)
		}
		if want.errors[1] == api.OK {
			good++
		}
	})
	enough(t, "arguments without an error", good, 100)
}

// TestNilAndEmpty is R3: a nil slice and an empty one are the same value.
func TestNilAndEmpty(t *testing.T) {
	for _, kinds := range []int{0, 1, 4} {
		a := arguments{yard: bare(kinds, 2)}
		b := arguments{yard: bare(kinds, 2), wrong: []int{}}
		b.yard.First, b.yard.Papers, b.yard.Last = counts(), papers(), counts()
		if kinds == 0 {
			b.yard.Kinds = []string{}
		}
		if !call(a).same(call(b)) {
			t.Errorf("%d kinds: nil lists and empty ones differ", kinds)
		}
	}
}
