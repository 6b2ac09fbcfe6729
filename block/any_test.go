package block_test

import (
	"math/bits"
	"math/rand/v2"
	"reflect"
	"slices"
	"testing"

	"orlop/api"
	"orlop/block"
)

// arguments is what the functions are handed.
type arguments struct {
	hull          api.BlHull
	weighed       []api.BlWeighed
	block, blocks int
	cut           []int
}

func (a arguments) copy() arguments {
	a.hull, a.weighed, a.cut = copyOf(a.hull), slices.Clone(a.weighed), slices.Clone(a.cut)
	return a
}

func (a arguments) same(b arguments) bool {
	return sameHulls(a.hull, b.hull) && slices.Equal(a.weighed, b.weighed) && a.block == b.block && a.blocks == b.blocks && slices.Equal(a.cut, b.cut)
}

// results is what all functions return; the errors are in the order of the functions in the chapter.
type results struct {
	part, at    int
	weights     []api.Span
	pull        api.Span
	heaviest    []int
	bad         int
	fewest      []int
	winch, sand int
	errors      [8]api.Errno
}

func call(a arguments) (r results) {
	r.part, r.at, r.errors[0] = block.Check(a.hull)
	r.weights, r.errors[1] = block.Weights(a.hull, a.weighed)
	r.pull, r.errors[2] = block.Pull(a.hull, a.weighed, a.block)
	r.heaviest, r.errors[3] = block.Heaviest(a.hull, a.weighed, a.block)
	r.bad, r.errors[4] = block.Bad(a.hull, a.weighed, a.cut)
	r.fewest, r.errors[5] = block.Fewest(a.hull, a.weighed)
	r.winch, r.errors[6] = block.Winch(a.hull, a.weighed, a.blocks)
	r.sand, r.errors[7] = block.Sand(a.hull, a.weighed, a.blocks)
	return r
}

func (r results) copy() results {
	r.weights, r.heaviest, r.fewest = slices.Clone(r.weights), slices.Clone(r.heaviest), slices.Clone(r.fewest)
	return r
}

func (r results) same(s results) bool { return reflect.DeepEqual(r, s) }

// zero checks that with an error nothing else is returned.
func (r results) zero(t *testing.T) {
	t.Helper()
	for i, wrong := range []bool{
		(r.errors[0] == api.OK) != (r.part == 0) || r.errors[0] == api.OK && r.at != 0,
		len(r.weights) != 0,
		r.pull != span(0, 0),
		len(r.heaviest) != 0,
		r.bad != 0,
		len(r.fewest) != 0,
		r.winch != 0,
		r.sand != 0,
	} {
		if wrong && (i == 0 || r.errors[i] != api.OK) {
			t.Errorf("with the error %d function %d returns %v", r.errors[i], i, r)
		}
	}
}

// spoil changes all elements of a list, and what is behind them in its memory.
func spoil[T any](l []T, x T) {
	l = l[:cap(l)]
	for i := range l {
		l[i] = x
	}
}

// spoil changes all lists of the results.
func (r results) spoil() {
	spoil(r.weights, span(8, 8))
	spoil(r.heaviest, 88)
	spoil(r.fewest, 88)
}

// wild is an int that is near a limit, or far beyond all of them.
func wild(r *rand.Rand) int {
	l := append(far(), 0, 1, 2, 3, 7, 8, 9, 255, 256, 1999, 2000, 2001, 99999, 100000, 100001, 1000000, 1000001, 10000000, 10000001)
	return l[r.IntN(len(l))]
}

// wildHull is a hull that may have several errors.
func wildHull(r *rand.Rand) api.BlHull {
	h := randomHull(r, api.MaxBlParts, 50)
	for range max(0, r.IntN(8)-5) {
		x := &h.Parts[r.IntN(len(h.Parts))]
		switch r.IntN(8) {
		case 0:
			h.Parts = append(h.Parts, randomHull(r, api.MaxBlParts, 50).Parts...)
		case 1:
			x.Name = []string{"", "A", "a b", "abcdefghijklmnopq", "a", "\x00"}[r.IntN(6)]
		case 2:
			h.Joints = append(h.Joints, [2]int{r.IntN(len(h.Parts)), r.IntN(len(h.Parts) + 1)})
		case 3:
			h.Joints = append(h.Joints, [2]int{wild(r), wild(r)})
		case 4:
			h.Joints = append(h.Joints, h.Joints...)
		case 5:
			x.Weight.Lo, x.Weight.Hi = x.Weight.Hi, x.Weight.Lo
		case 6:
			h.Sand.Lo, h.Sand.Hi = h.Sand.Hi, h.Sand.Lo
		default:
			*[]*int{&h.Sand.Lo, &h.Sand.Hi, &h.Winch, &x.Weight.Lo, &x.Weight.Hi}[r.IntN(5)] = wild(r)
		}
	}
	if r.IntN(40) == 0 {
		h.Parts = nil
	}
	return h
}

// wildWeighings is weighings of a hull that may have several errors.
func wildWeighings(r *rand.Rand, h api.BlHull) (l []api.BlWeighed) {
	if part, _, _ := block.Check(h); part == 0 {
		l = spoilt(r, randomWeighings(r, h, randomTruth(r, h), api.MaxBlWeighed))
	}
	for range max(0, r.IntN(8)-5) {
		set := ints(r.IntN(1<<len(h.Parts)), r.IntN(300), wild(r))[r.IntN(3)]
		l = append(l, weighed(set, 0, api.MaxBlShown))
		w := &l[r.IntN(len(l))]
		switch r.IntN(4) {
		case 0:
			w.Shown.Lo, w.Shown.Hi = w.Shown.Hi, w.Shown.Lo
		case 1:
			w.Shown.Lo = wild(r)
		case 2:
			w.Shown.Hi = wild(r)
		}
	}
	if r.IntN(40) == 0 {
		l = append(l, make([]api.BlWeighed, 4+r.IntN(3))...)
	}
	return l
}

func wildArguments(r *rand.Rand) arguments {
	a := arguments{hull: wildHull(r), blocks: 1 + r.IntN(9)}
	parts := len(a.hull.Parts)
	a.weighed = wildWeighings(r, a.hull)
	a.block = r.IntN(1<<parts + 1)
	for range parts {
		a.cut = append(a.cut, r.IntN(3))
	}
	if r.IntN(2) == 0 {
		a.cut = numbered(a.cut)
	}
	if parts > 0 && r.IntN(6) == 0 {
		a.cut[r.IntN(parts)] = wild(r)
	}
	if r.IntN(6) == 0 {
		a.cut = append(a.cut, a.cut...)
	}
	for _, n := range []*int{&a.block, &a.blocks} {
		if r.IntN(8) == 0 {
			*n = wild(r)
		}
	}
	return a
}

// first returns the first error.
func first(errors ...api.Errno) api.Errno {
	for _, e := range errors {
		if e != api.OK {
			return e
		}
	}
	return api.OK
}

// when returns an error if something is so.
func when(is bool, e api.Errno) api.Errno {
	if is {
		return e
	}
	return api.OK
}

func out(n, lo, hi int) bool { return n < lo || n > hi }

// isName is whether a string is a name, as the tests' hulls have them.
func isName(s string) bool {
	return s != "" && s != "A" && s != "a b" && s != "\x00" && len(s) <= api.MaxName
}

// errorOfHull is what Check has to return.
func errorOfHull(h api.BlHull) (part, at int, e api.Errno) {
	beyond := out(h.Sand.Lo, 1, 2000) || out(h.Sand.Hi, 1, 2000) || out(h.Winch, 1, 10000000)
	if e := first(when(out(len(h.Parts), 1, 8) || len(h.Joints) > 12, api.ErrLong), when(beyond, api.ErrRange), when(h.Sand.Lo > h.Sand.Hi, api.ErrArg)); e != api.OK {
		return 1, 0, e
	}
	names := map[string]bool{}
	for i, x := range h.Parts {
		beyond := out(x.Weight.Lo, 0, 100000) || out(x.Weight.Hi, 0, 100000)
		if e := first(when(!isName(x.Name), api.ErrForm), when(names[x.Name], api.ErrTwice), when(beyond, api.ErrRange), when(x.Weight.Lo > x.Weight.Hi, api.ErrArg)); e != api.OK {
			return 2, i, e
		}
		names[x.Name] = true
	}
	met := map[[2]int]bool{}
	for i, j := range h.Joints {
		none := out(j[0], 0, len(h.Parts)-1) || out(j[1], 0, len(h.Parts)-1)
		if e := first(when(none, api.ErrNone), when(j[0] >= j[1], api.ErrArg), when(met[j], api.ErrTwice)); e != api.OK {
			return 3, i, e
		}
		met[j] = true
	}
	return 0, 0, api.OK
}

// errorOfBlock is the error of a block.
func errorOfBlock(h api.BlHull, set int) api.Errno {
	if out(set, 1, 1<<len(h.Parts)-1) {
		return api.ErrNone
	}
	return when(!together(h, set), api.ErrForm)
}

// errorOfWeighings is the error of weighings.
func errorOfWeighings(h api.BlHull, l []api.BlWeighed) api.Errno {
	if len(l) > 6 {
		return api.ErrLong
	}
	for i, w := range l {
		form := first(errorOfBlock(h, w.Parts), when(!nested(w.Parts, l[:i]), api.ErrForm))
		beyond := out(w.Shown.Lo, 0, 1000000) || out(w.Shown.Hi, 0, 1000000)
		if e := first(form, when(beyond, api.ErrRange), when(w.Shown.Lo > w.Shown.Hi, api.ErrArg)); e != api.OK {
			return e
		}
	}
	return when(!possible(h, l), api.ErrDown)
}

// possible is whether a truth agrees with weighings without an error. The smaller ones are looked at first: what they leave to their parts together counts in the larger ones.
func possible(h api.BlHull, l []api.BlWeighed) bool {
	l = slices.Clone(l)
	slices.SortFunc(l, func(a, b api.BlWeighed) int { return a.Parts - b.Parts })
	var known []api.BlWeighed // of which no two have parts in common
	for i, x := range h.Parts {
		known = append(known, weighed(1<<i, x.Weight.Lo, x.Weight.Hi))
	}
	for _, w := range l {
		all := span(0, 0)
		known = slices.DeleteFunc(known, func(k api.BlWeighed) bool {
			if k.Parts&w.Parts == 0 {
				return false
			}
			all = span(all.Lo+k.Shown.Lo, all.Hi+k.Shown.Hi)
			return true
		})
		all = span(max(all.Lo, w.Shown.Lo), min(all.Hi, w.Shown.Hi))
		if all.Lo > all.Hi {
			return false
		}
		known = append(known, weighed(w.Parts, all.Lo, all.Hi))
	}
	return true
}

// errorOfCut is the error of a cut.
func errorOfCut(h api.BlHull, cut []int) api.Errno {
	return first(when(len(cut) != len(h.Parts), api.ErrLong), when(!isCut(cut), api.ErrForm))
}

// loose is whether a hull cannot be cut into at most so many blocks that hang together: it falls apart into more heaps, of which each is the largest block with its parts.
func loose(h api.BlHull, blocks int) bool {
	heaps := 0
	for met := 0; met != 1<<len(h.Parts)-1; heaps++ {
		heap := 0
		for set := range 1 << len(h.Parts) {
			if set&met == 0 && bits.OnesCount(uint(set)) > bits.OnesCount(uint(heap)) && together(h, set) {
				heap = set
			}
		}
		met |= heap
	}
	return heaps > blocks
}

// alone is the greatest weight of a part.
func alone(weights []api.Span) (most int) {
	for _, w := range weights {
		most = max(most, w.Hi)
	}
	return most
}

// errorsOf is the errors that all functions but Sand have to return.
func errorsOf(a arguments) (l [7]api.Errno) {
	if _, _, e := errorOfHull(a.hull); e != api.OK {
		return [7]api.Errno{e, e, e, e, e, e, e}
	}
	if e := errorOfWeighings(a.hull, a.weighed); e != api.OK {
		return [7]api.Errno{api.OK, e, e, e, e, e, e}
	}
	weights, _ := block.Weights(a.hull, a.weighed)
	set := errorOfBlock(a.hull, a.block)
	return [7]api.Errno{
		api.OK,
		api.OK,
		set,
		set,
		errorOfCut(a.hull, a.cut),
		when(alone(weights)*a.hull.Sand.Hi > a.hull.Winch*1000, api.ErrDown),
		first(when(out(a.blocks, 1, 8), api.ErrRange), when(out(a.blocks, 1, 8) || loose(a.hull, a.blocks), api.ErrDown)),
	}
}

// TestAnyArguments is P7.14, P1, R1 and R2: any arguments have the error that is named first, or none; they are not modified, and with an error nothing else is returned.
func TestAnyArguments(t *testing.T) {
	var met [8][10]int
	many(t, 6000, func(r *rand.Rand) {
		a := wildArguments(r)
		before := a.copy()
		got := call(a)
		if !a.same(before) {
			t.Errorf("%v became %v", before, a)
		}
		got.zero(t)
		if part, at, _ := errorOfHull(a.hull); got.part != part || got.at != at {
			t.Errorf("%v: Check = %d, %d; want %d, %d", a.hull, got.part, got.at, part, at)
		}
		want := errorsOf(a)
		if [7]api.Errno(got.errors[:7]) != want {
			t.Errorf("%v: the errors are %v; want %v", a, got.errors, want)
		}
		if sand := got.errors[7]; want[6] != api.OK && sand != want[6] || want[6] == api.OK && sand != api.OK && sand != api.ErrDown {
			t.Errorf("%v: Sand has the error %d, Winch %d", a, sand, want[6])
		}
		for i, e := range got.errors {
			met[i][e]++
		}
	})
	hull := []api.Errno{api.OK, api.ErrLong, api.ErrRange, api.ErrArg, api.ErrForm, api.ErrTwice, api.ErrNone}
	for i := range met {
		for _, e := range hull {
			enough(t, "an error of some function", met[i][e], 10)
		}
		if i > 0 {
			enough(t, "ErrDown of some function", met[i][api.ErrDown], 50)
		}
	}
}

// TestNewMemory is P7.14, R4 and R5: results share no memory with arguments or with other results, and nothing is kept between calls.
func TestNewMemory(t *testing.T) {
	good := 0
	many(t, 500, func(r *rand.Rand) {
		h := randomHull(r, api.MaxBlParts, 1000)
		l := randomWeighings(r, h, randomTruth(r, h), api.MaxBlWeighed)
		a := arguments{hull: h, weighed: l, block: randomBlock(r, h), blocks: 1 + r.IntN(8), cut: numbered(randomTruth(r, h))}
		before := a.copy()
		got, again := call(a), call(a)
		want := got.copy()
		again.spoil()
		if !got.same(want) || !a.same(before) {
			t.Errorf("%v: results share memory", before)
		}
		spoil(a.hull.Parts, part("x", 8, 8))
		spoil(a.hull.Joints, [2]int{8, 8})
		spoil(a.weighed, weighed(8, 8, 8))
		spoil(a.cut, 88)
		if !got.same(want) {
			t.Errorf("%v: a result shares memory with an argument", before)
		}
		if s := call(before); !s.same(want) {
			t.Errorf("%v: the results are %v; want %v", before, s, want)
		}
		if want.errors == [8]api.Errno{} {
			good++
		}
	})
	enough(t, "arguments without an error", good, 200)
}
