package vent_test

import (
	"math/rand/v2"
	"slices"
	"testing"

	"orlop/api"
	"orlop/vent"
)

// arguments is what the functions are handed.
type arguments struct {
	net            api.VnNet
	blanks, wanted []int
	steps          []api.VnStep
	ways           [][]int
	blowers        int
}

func (a arguments) copy() arguments {
	return arguments{copyOf(a.net), slices.Clone(a.blanks), slices.Clone(a.wanted), slices.Clone(a.steps), copyOfAll(a.ways), a.blowers}
}

func (a arguments) same(b arguments) bool {
	return sameNets(a.net, b.net) && slices.Equal(a.blanks, b.blanks) && slices.Equal(a.wanted, b.wanted) &&
		slices.Equal(a.steps, b.steps) && sameLists(a.ways, b.ways) && a.blowers == b.blowers
}

// results is what all functions return.
type results struct {
	part, at               int
	joined, way, blanks    []int
	state                  api.VnState
	ways                   [][]int
	proves                 bool
	plan                   []api.VnStep
	fewest                 int
	check, join, after     api.Errno
	wayE, blanksE, waysE   api.Errno
	provesE, planE, fewerE api.Errno
}

func call(a arguments) (r results) {
	r.part, r.at, r.check = vent.Check(a.net)
	r.joined, r.join = vent.Joined(a.net, a.blanks)
	r.state, r.after = vent.After(a.net, a.blanks, a.steps)
	r.way, r.wayE = vent.Way(a.net, a.blanks, a.wanted)
	r.blanks, r.blanksE = vent.Blanks(a.net, a.wanted)
	r.ways, r.waysE = vent.Ways(a.net, a.wanted)
	r.proves, r.provesE = vent.Proves(a.net, a.wanted, a.ways)
	r.plan, r.planE = vent.Plan(a.net, a.blanks, a.wanted, a.blowers)
	r.fewest, r.fewerE = vent.Fewest(a.net, a.blanks, a.wanted)
	return r
}

func (r results) errors() [9]api.Errno {
	return [9]api.Errno{r.check, r.join, r.after, r.wayE, r.blanksE, r.waysE, r.provesE, r.planE, r.fewerE}
}

func (r results) same(s results) bool {
	return r.part == s.part && r.at == s.at && slices.Equal(r.joined, s.joined) && slices.Equal(r.way, s.way) &&
		slices.Equal(r.blanks, s.blanks) && sameStates(r.state, s.state) && sameLists(r.ways, s.ways) && r.proves == s.proves &&
		slices.Equal(r.plan, s.plan) && r.fewest == s.fewest && r.errors() == s.errors()
}

func (r results) copy() results {
	r.joined, r.way, r.blanks = slices.Clone(r.joined), slices.Clone(r.way), slices.Clone(r.blanks)
	r.state = api.VnState{Free: slices.Clone(r.state.Free), Blowers: slices.Clone(r.state.Blowers)}
	r.ways, r.plan = copyOfAll(r.ways), slices.Clone(r.plan)
	return r
}

// zero checks that with an error nothing else is returned.
func (r results) zero(t *testing.T) {
	t.Helper()
	for i, wrong := range []bool{
		(r.check == api.OK) != (r.part == 0) || r.check == api.OK && r.at != 0,
		r.join != api.OK && r.joined != nil,
		r.after != api.OK && (r.state.Free != nil || r.state.Blowers != nil),
		r.wayE != api.OK && r.way != nil,
		r.blanksE != api.OK && r.blanks != nil,
		r.waysE != api.OK && r.ways != nil,
		r.provesE != api.OK && r.proves,
		r.planE != api.OK && r.plan != nil,
		r.fewerE != api.OK && r.fewest != 0,
		r.fewerE == api.OK && r.fewest < 1,
	} {
		if wrong {
			t.Errorf("%d: an error with a result, or none without: %v", i, r)
		}
	}
}

// spoil changes all that a slice has memory for.
func spoil[T any](l []T, x T) {
	l = l[:cap(l)]
	for i := range l {
		l[i] = x
	}
}

func (a arguments) spoil() {
	spoil(a.net.Tanks, api.VnTank{Name: "spoilt", Kept: true})
	spoil(a.net.Pipes, welded(77, 77))
	spoil(a.blanks, 77)
	spoil(a.wanted, 77)
	spoil(a.steps, off(77))
	for _, way := range a.ways {
		spoil(way, 77)
	}
	spoil(a.ways, ints(77))
}

// wild is any number: mostly an index, or one that is near one.
func wild(r *rand.Rand) int {
	l := far()
	if i := r.IntN(40); i < len(l) {
		return l[i]
	}
	return r.IntN(9) - 1
}

func wildList(r *rand.Rand) []int {
	var l []int
	for range r.IntN(5) {
		l = append(l, wild(r))
	}
	if r.IntN(2) == 0 {
		slices.Sort(l)
	}
	return l
}

// wildNet is any net: some have an error.
func wildNet(r *rand.Rand) api.VnNet {
	if r.IntN(3) > 0 {
		return randomNet(r, 3, 3)
	}
	var n api.VnNet
	for range r.IntN(9) {
		name := []string{"a", "b", "c", "d", "e", "f", "", "\xff", "g"}[r.IntN(9)]
		n.Tanks = append(n.Tanks, api.VnTank{Name: name, Kept: r.IntN(2) == 0})
	}
	if r.IntN(2) == 0 {
		n.Tanks = randomNet(r, 3, 3).Tanks
	}
	for range r.IntN(14) {
		n.Pipes = append(n.Pipes, api.VnPipe{From: wild(r), To: wild(r), Welded: r.IntN(2) == 0})
	}
	return n
}

func wildArguments(r *rand.Rand) arguments {
	a := arguments{net: wildNet(r), blanks: wildList(r), wanted: wildList(r), blowers: wild(r)}
	if _, _, e := vent.Check(a.net); e == api.OK && r.IntN(3) > 0 {
		a.blanks = randomBlanks(r, a.net, 3)
		a.wanted = randomWanted(r, a.net)
		a.steps = randomSteps(r, a.net, a.blanks, r.IntN(70))
		if len(a.wanted) > 0 {
			a.ways = randomProof(r, ways(a.net, a.wanted))
		}
	}
	for range r.IntN(3) {
		a.steps = append(a.steps, api.VnStep{Tank: wild(r), Off: r.IntN(2) == 0})
	}
	for range r.IntN(2) {
		a.ways = append(a.ways, wildList(r))
	}
	return a
}

// errorOfNet is the error of a net, told tank by tank and pipe by pipe.
func errorOfNet(n api.VnNet) (part, at int, e api.Errno) {
	if len(n.Tanks) < 1 || len(n.Tanks) > 7 || len(n.Pipes) > 12 {
		return 1, 0, api.ErrLong
	}
	for i, tank := range n.Tanks {
		if len(tank.Name) != 1 || tank.Name[0] > 'z' {
			return 2, i, api.ErrForm
		}
		for _, before := range n.Tanks[:i] {
			if before.Name == tank.Name {
				return 2, i, api.ErrTwice
			}
		}
	}
	for i, p := range n.Pipes {
		if p.From < 0 || p.To < 0 || p.From >= len(n.Tanks) || p.To >= len(n.Tanks) {
			return 3, i, api.ErrNone
		}
		if p.From == p.To {
			return 3, i, api.ErrArg
		}
	}
	return 0, 0, api.OK
}

// errorOfList is the error of ascending indices of so many things, none of them barred.
func errorOfList(l []int, things int, barred func(i int) bool) api.Errno {
	for i, x := range l {
		switch {
		case x < 0 || x >= things:
			return api.ErrNone
		case i > 0 && x <= l[i-1]:
			return api.ErrArg
		case barred(x):
			return api.ErrDown
		}
	}
	return api.OK
}

// errorOfSteps is the error of steps, of which each is tried.
func errorOfSteps(n api.VnNet, l []api.VnStep) api.Errno {
	if len(l) > 60 {
		return api.ErrLong
	}
	var s state
	for _, step := range l {
		if step.Tank < 0 || step.Tank >= len(n.Tanks) {
			return api.ErrNone
		}
		if !possible(n, s, step) {
			return api.ErrArg
		}
		s.blown[step.Tank] = !step.Off
	}
	return api.OK
}

// first is the first error of some that is not OK.
func first(l ...api.Errno) api.Errno {
	for _, e := range l {
		if e != api.OK {
			return e
		}
	}
	return api.OK
}

// down is an error if something is so.
func down(is bool, e api.Errno) api.Errno {
	if is {
		return e
	}
	return api.OK
}

// errorsOf is the errors that all functions have to return.
func errorsOf(a arguments) [9]api.Errno {
	n := a.net
	_, _, net := errorOfNet(n)
	if net != api.OK {
		return [9]api.Errno{net, net, net, net, net, net, net, net, net}
	}
	blanks := errorOfList(a.blanks, len(n.Pipes), func(i int) bool { return n.Pipes[i].Welded })
	wanted := first(down(len(a.wanted) == 0, api.ErrLong), errorOfList(a.wanted, len(n.Tanks), func(i int) bool { return n.Tanks[i].Kept }))
	both := first(blanks, wanted)
	separable, closed, need := true, true, 1
	if both == api.OK {
		closed = fewestPipes(ways(n, a.wanted), a.blanks) == nil
		need = fewestBlowers(n, a.blanks, a.wanted)
	}
	if wanted == api.OK {
		_, separable = fewestBlanks(n, ways(n, a.wanted))
	}
	return [9]api.Errno{
		api.OK,
		blanks,
		first(blanks, errorOfSteps(n, a.steps)),
		first(both, down(closed, api.ErrNone)),
		first(wanted, down(!separable, api.ErrDown)),
		first(wanted, down(!separable, api.ErrDown)),
		wanted,
		first(both, down(a.blowers < 1 || a.blowers > 7, api.ErrRange), down(need == 0 || need > a.blowers, api.ErrDown)),
		first(both, down(need == 0, api.ErrDown)),
	}
}

// TestAnyArguments is P4.15, P1, R1 and R2: any arguments have the error that is named first, or none; they are not modified, and with an error nothing else is returned.
func TestAnyArguments(t *testing.T) {
	var met [9][10]int
	many(t, 6000, func(r *rand.Rand) {
		a := wildArguments(r)
		before := a.copy()
		got := call(a)
		if !a.same(before) {
			t.Errorf("%v became %v", before, a)
		}
		got.zero(t)
		if part, at, _ := errorOfNet(a.net); got.part != part || got.at != at {
			t.Errorf("%v: Check = %d, %d; want %d, %d", a.net, got.part, got.at, part, at)
		}
		want := errorsOf(a)
		if got.errors() != want {
			t.Errorf("%v: the errors are %v; want %v", a, got.errors(), want)
		}
		for i, e := range want {
			met[i][e]++
		}
	})
	for i, l := range [9][]api.Errno{
		{api.OK, api.ErrLong, api.ErrForm, api.ErrTwice, api.ErrNone, api.ErrArg},
		{api.OK, api.ErrNone, api.ErrArg, api.ErrDown},
		{api.OK, api.ErrLong, api.ErrNone, api.ErrArg, api.ErrDown},
		{api.OK, api.ErrLong, api.ErrNone, api.ErrArg, api.ErrDown},
		{api.OK, api.ErrLong, api.ErrNone, api.ErrArg, api.ErrDown},
		{api.OK, api.ErrLong, api.ErrNone, api.ErrArg, api.ErrDown},
		{api.OK, api.ErrLong, api.ErrNone, api.ErrArg, api.ErrDown},
		{api.OK, api.ErrLong, api.ErrNone, api.ErrArg, api.ErrDown, api.ErrRange},
		{api.OK, api.ErrLong, api.ErrNone, api.ErrArg, api.ErrDown},
	} {
		for _, e := range l {
			enough(t, "an error of some function", met[i][e], 10)
		}
	}
}

// spoil changes all results.
func (r results) spoil() {
	for _, l := range append([][]int{r.joined, r.way, r.blanks, r.state.Free, r.state.Blowers}, r.ways...) {
		spoil(l, 88)
	}
	spoil(r.ways, ints(88))
	spoil(r.plan, on(88))
}

// TestNewMemory is P4.15, R4 and R5: results share no memory with arguments or with other results, and nothing is kept between calls.
func TestNewMemory(t *testing.T) {
	proofs := 0
	many(t, 1000, func(r *rand.Rand) {
		n, blanks, wanted := randomAim(r)
		a := arguments{n, blanks, wanted, randomSteps(r, n, blanks, 20), randomProof(r, ways(n, wanted)), api.MaxVnTanks}
		before := a.copy()
		got, again := call(a), call(a)
		want := got.copy()
		again.spoil()
		if !got.same(want) || !a.same(before) {
			t.Errorf("%v: results share memory", before)
		}
		a.spoil()
		if !got.same(want) {
			t.Errorf("%v: a result shares memory with an argument", before)
		}
		if s := call(before); !s.same(want) {
			t.Errorf("%v: the results are %v; want %v", before, s, want)
		}
		if len(got.ways) > 1 {
			proofs++
		}
		for i := range got.ways {
			spoil(got.ways[i], 88)
			for j := i + 1; j < len(got.ways); j++ {
				if !slices.Equal(got.ways[j], want.ways[j]) {
					t.Errorf("%v: two ways share memory", before)
				}
			}
		}
		spoil(got.state.Free, 88)
		if !slices.Equal(got.state.Blowers, want.state.Blowers) {
			t.Errorf("%v: free tanks and blowers share memory", before)
		}
	})
	enough(t, "several ways", proofs, 100)
}
