package cut_test

import (
	"math/rand/v2"
	"reflect"
	"slices"
	"testing"

	"orlop/api"
	"orlop/cut"
	"orlop/hull"
	"orlop/stand"
	"orlop/vent"
)

// arguments is what the functions are handed.
type arguments struct {
	task        api.CtTask
	order, sets []int
	part        int
}

func (a arguments) copy() arguments {
	a.task, a.order, a.sets = copyOf(a.task), slices.Clone(a.order), slices.Clone(a.sets)
	return a
}

// results is what all functions return; the errors are in the order of the functions in the chapter.
type results struct {
	part, at, bad, why                int
	may, next, first, most, to, proof []int
	proves                            bool
	errors                            [9]api.Errno
}

func call(a arguments) (r results) {
	r.part, r.at, r.errors[0] = cut.Check(a.task)
	r.bad, r.why, r.errors[1] = cut.Bad(a.task, a.order)
	r.may, r.errors[2] = cut.May(a.task, a.order)
	r.next, r.errors[3] = cut.Next(a.task, a.order)
	r.first, r.errors[4] = cut.First(a.task)
	r.most, r.errors[5] = cut.Most(a.task)
	r.to, r.errors[6] = cut.To(a.task, a.part)
	r.proof, r.errors[7] = cut.Proof(a.task)
	r.proves, r.errors[8] = cut.Proves(a.task, a.sets)
	return r
}

// lists is all lists of the results, from that of May on.
func (r results) lists() [][]int { return [][]int{r.may, r.next, r.first, r.most, r.to, r.proof} }

func (r results) copy() results {
	for _, l := range []*[]int{&r.may, &r.next, &r.first, &r.most, &r.to, &r.proof} {
		*l = slices.Clone(*l)
	}
	return r
}

func (r results) same(s results) bool { return reflect.DeepEqual(r, s) }

// zero checks that with an error nothing else is returned.
func (r results) zero(t *testing.T) {
	t.Helper()
	for i, l := range r.lists() {
		if r.errors[i+2] != api.OK && len(l) != 0 {
			t.Errorf("with the error %d function %d returns %v", r.errors[i+2], i+2, l)
		}
	}
	if r.errors[1] != api.OK && (r.bad != 0 || r.why != 0) || r.errors[1] == api.OK && (r.bad < 0) != (r.why == api.CtGood) {
		t.Errorf("Bad = %d, %d, %d", r.bad, r.why, r.errors[1])
	}
	if (r.errors[0] == api.OK) != (r.part == 0) || r.errors[0] == api.OK && r.at != 0 {
		t.Errorf("Check = %d, %d, %d", r.part, r.at, r.errors[0])
	}
	if r.proves && (r.errors[8] != api.OK || r.errors[7] != api.OK) {
		t.Errorf("Proves = %v, %d, Proof has the error %d", r.proves, r.errors[8], r.errors[7])
	}
}

// spoil changes all elements of a list, and what is behind them in its memory.
func spoil[T any](l []T, x T) {
	l = l[:cap(l)]
	for i := range l {
		l[i] = x
	}
}

// spoil changes all lists of the arguments.
func (a arguments) spoil() {
	for i := range a.task.Ship.Parts {
		spoil(a.task.Ship.Parts[i].On, "x")
	}
	for i := range a.task.Tanks {
		spoil(a.task.Tanks[i], 88)
	}
	spoil(a.task.Ship.Parts, api.HuPart{Name: "x"})
	spoil(a.task.Hull.Parts, api.StPart{Name: "x"})
	spoil(a.task.Net.Tanks, api.VnTank{Name: "x"})
	spoil(a.task.Net.Pipes, api.VnPipe{From: 88})
	spoil(a.task.Blanks, 88)
	spoil(a.task.Steps, api.VnStep{Tank: 88})
	spoil(a.task.Tanks, ints(88))
	spoil(a.order, 88)
	spoil(a.sets, 88)
}

// wild is an int that is near a limit, or far beyond all of them.
func wild(r *rand.Rand) int {
	l := append(far(), 0, 1, 2, 3, 5, 7, 8, 40, 41, 60, 61, 127, 128, 1000, 1001, 5000, 5001, 1000000, 1000001)
	return l[r.IntN(len(l))]
}

// spoilShip, spoilHull, and so on put an error into a part of a task, most of the time.
func spoilShip(r *rand.Rand, t *api.CtTask) {
	x := &t.Ship.Parts[r.IntN(len(t.Ship.Parts))]
	switch r.IntN(5) {
	case 0:
		x.Name = []string{"", "A", "a", "z", "abcdefghijklmnopq"}[r.IntN(5)]
	case 1:
		x.On = append(x.On, []string{"", "a", "b", "g"}[r.IntN(4)])
	case 2:
		t.Ship.Parts = append(t.Ship.Parts, easy(1+r.IntN(12)).Ship.Parts...)
	case 3:
		*[]*int{&x.Kind, &x.First, &x.Last, &x.Weight.Lo, &x.Weight.Hi}[r.IntN(5)] = wild(r)
	case 4:
		t.Ship.Parts = t.Ship.Parts[:len(t.Ship.Parts)-1]
	}
}

func spoilHull(r *rand.Rand, t *api.CtTask) {
	x := &t.Hull.Parts[r.IntN(len(t.Hull.Parts))]
	switch r.IntN(5) {
	case 0:
		x.Name = []string{"", "A", "a", "z", "abcdefghijklmnopq"}[r.IntN(5)]
	case 1:
		y := &t.Hull.Parts[r.IntN(len(t.Hull.Parts))]
		*x, *y = *y, *x
	case 2:
		t.Hull.Parts = append(t.Hull.Parts, easy(1+r.IntN(10)).Hull.Parts...)
	case 3:
		*[]*int{&t.Hull.Aft, &t.Hull.Fore, &x.At, &x.Keel, &x.Weight.Lo, &x.Weight.Hi, &x.Lift.Lo, &x.Lift.Hi}[r.IntN(8)] = wild(r)
	case 4:
		t.Hull.Parts = t.Hull.Parts[:len(t.Hull.Parts)-1]
	}
}

func spoilTide(r *rand.Rand, t *api.CtTask) {
	*[]*int{&t.Tide.Lo, &t.Tide.Hi}[r.IntN(2)] = wild(r)
}

func spoilNet(r *rand.Rand, t *api.CtTask) {
	switch r.IntN(5) {
	case 0:
		t.Net.Tanks[r.IntN(3)].Name = []string{"", "A", "a", "z"}[r.IntN(4)]
	case 1:
		t.Net.Pipes = append(t.Net.Pipes, api.VnPipe{From: r.IntN(4), To: wild(r)})
	case 2:
		t.Blanks = append(t.Blanks, wild(r))
	case 3:
		t.Steps = append(t.Steps, api.VnStep{Tank: wild(r), Off: r.IntN(2) == 0})
	case 4:
		t.Net.Tanks = t.Net.Tanks[:r.IntN(3)]
	}
}

func spoilTanks(r *rand.Rand, t *api.CtTask) {
	i := r.IntN(len(t.Tanks))
	switch r.IntN(4) {
	case 0:
		t.Tanks[i] = append(t.Tanks[i], wild(r))
	case 1:
		t.Tanks[i] = append(t.Tanks[i], 2, r.IntN(4))
	case 2:
		t.Tanks = append(t.Tanks, nil)
	case 3:
		t.Tanks = t.Tanks[:i]
	}
}

// wildArguments is arguments that may have several errors.
func wildArguments(r *rand.Rand) arguments {
	a := arguments{task: randomTask(r, 1+r.IntN(5)), part: r.IntN(6)}
	a.order = randomOrder(r, a.task)
	a.sets, _ = cut.Proof(a.task)
	for _, l := range []*[]int{&a.order, &a.sets} {
		switch r.IntN(6) {
		case 0:
			*l = append(*l, wild(r))
		case 1, 2:
			*l = append(*l, r.IntN(6), r.IntN(6))
		}
	}
	if r.IntN(6) == 0 {
		a.part = wild(r)
	}
	for _, spoil := range []func(r *rand.Rand, t *api.CtTask){spoilShip, spoilHull, spoilTide, spoilNet, spoilTanks} {
		if r.IntN(8) == 0 {
			spoil(r, &a.task)
		}
	}
	return a
}

// errorOfTask is what Check has to return.
func errorOfTask(t api.CtTask) (part, at int, e api.Errno) {
	n := len(t.Ship.Parts)
	if _, at, e := hull.Check(api.HuPlan{Ship: t.Ship}); e != api.OK {
		return 1, at, e
	}
	if _, _, e := stand.Check(t.Hull); e != api.OK {
		return 2, 0, e
	}
	if len(t.Hull.Parts) != n || n > 7 {
		return 2, 0, api.ErrLong
	}
	for i := range n {
		if t.Hull.Parts[i].Name != t.Ship.Parts[i].Name {
			return 2, i, api.ErrNone
		}
	}
	if _, _, e := stand.Why(t.Hull, t.Tide); e != api.OK {
		return 3, 0, e
	}
	if _, e := vent.After(t.Net, t.Blanks, t.Steps); e != api.OK {
		return 4, 0, e
	}
	if len(t.Tanks) != n {
		return 5, 0, api.ErrLong
	}
	for i, list := range t.Tanks {
		for j, tank := range list {
			switch {
			case tank < 0 || tank >= len(t.Net.Tanks):
				return 5, i, api.ErrNone
			case j > 0 && tank <= list[j-1]:
				return 5, i, api.ErrArg
			}
		}
	}
	return 0, 0, api.OK
}

// errorOfOrder is the error of an order that May and Next return, and the one that Bad does.
func errorOfOrder(a arguments) (e, bad api.Errno) {
	n := len(a.task.Ship.Parts)
	for _, part := range a.order {
		if part < 0 || part >= n {
			return api.ErrNone, api.ErrNone
		}
	}
	left := 1<<n - 1
	for _, part := range a.order {
		if reason(a.task, left, part) != api.CtGood {
			return api.ErrDown, api.OK
		}
		left &^= 1 << part
	}
	return api.OK, api.OK
}

// errorsOf is the errors that all functions have to return.
func errorsOf(a arguments) [9]api.Errno {
	if _, _, e := errorOfTask(a.task); e != api.OK {
		return [9]api.Errno{e, e, e, e, e, e, e, e, e}
	}
	n := len(a.task.Ship.Parts)
	when := func(is bool, e api.Errno) api.Errno {
		if is {
			return e
		}
		return api.OK
	}
	e, bad := errorOfOrder(a)
	orders := goodOrders(n, reasons(a.task))
	_, whole := wholeOf(orders, n)
	_, ends := endOf(orders, a.part)
	to := when(!ends, api.ErrDown)
	if a.part < 0 || a.part >= n {
		to = api.ErrNone
	}
	wrong := slices.ContainsFunc(a.sets, func(set int) bool { return set < 0 || set >= 1<<n })
	return [9]api.Errno{
		api.OK,
		bad,
		e,
		e,
		when(!whole, api.ErrDown),
		api.OK,
		to,
		when(whole, api.ErrDown),
		when(wrong, api.ErrRange),
	}
}

// TestAnyArguments is P6.1, P6.13, P1, R1 and R2: any arguments have the error that is named first, or none; they are not modified, and with an error nothing else is returned.
func TestAnyArguments(t *testing.T) {
	var met [9][10]int
	var parts [6]int
	many(t, 4000, func(r *rand.Rand) {
		a := wildArguments(r)
		before := a.copy()
		got := call(a)
		if !reflect.DeepEqual(a, before) {
			t.Errorf("%v became %v", before, a)
		}
		got.zero(t)
		part, at, _ := errorOfTask(a.task)
		if got.part != part || got.at != at {
			t.Errorf("%v: Check = %d, %d; want %d, %d", a.task, got.part, got.at, part, at)
		}
		parts[part]++
		want := errorsOf(a)
		if got.errors != want {
			t.Errorf("%v: the errors are %v; want %v", a, got.errors, want)
		}
		for i, e := range want {
			met[i][e]++
		}
	})
	for _, n := range parts {
		enough(t, "an error of a part of a task", n, 100)
	}
	task := []api.Errno{api.OK, api.ErrArg, api.ErrLong, api.ErrNone, api.ErrTwice, api.ErrForm, api.ErrRange}
	down := []api.Errno{api.ErrDown}
	for i, l := range [9][]api.Errno{2: down, 3: down, 4: down, 6: down, 7: down} {
		for _, e := range append(slices.Clone(l), task...) {
			enough(t, "an error of some function", met[i][e], 10)
		}
	}
}

// TestNewMemory is P6.13, R4 and R5: results share no memory with arguments or with other results, and nothing is kept between calls.
func TestNewMemory(t *testing.T) {
	lists := 0
	many(t, 600, func(r *rand.Rand) {
		a := arguments{task: randomTask(r, 1+r.IntN(api.MaxCtParts))}
		a.order, a.part = randomOrder(r, a.task), r.IntN(len(a.task.Ship.Parts))
		a.sets, _ = cut.Proof(a.task)
		before := a.copy()
		got, again := call(a), call(a)
		want := got.copy()
		for _, l := range again.lists() {
			spoil(l, 88)
		}
		if !got.same(want) || !reflect.DeepEqual(a, before) {
			t.Errorf("%v: results share memory", before)
		}
		a.spoil()
		if !got.same(want) {
			t.Errorf("%v: a result shares memory with an argument", before)
		}
		if s := call(before); !s.same(want) {
			t.Errorf("%v: the results are %v; want %v", before, s, want)
		}
		for i, l := range got.lists() {
			spoil(l, 88)
			lists += min(1, len(l))
			for j, other := range got.lists()[i+1:] {
				if !slices.Equal(other, want.lists()[i+1+j]) {
					t.Errorf("%v: two results share memory", before)
				}
			}
		}
	})
	enough(t, "lists", lists, 1000)
}

// TestEmptyLists is R3: a nil list is the same as an empty one.
func TestEmptyLists(t *testing.T) {
	bare := easy(2)
	bare.Steps = nil
	empty := copyOf(bare)
	empty.Blanks, empty.Steps, empty.Net.Pipes = []int{}, []api.VnStep{}, []api.VnPipe{}
	for i := range empty.Tanks {
		empty.Tanks[i], empty.Ship.Parts[i].On = []int{}, []string{}
	}
	for _, task := range []api.CtTask{bare, empty} {
		checks(t, "an empty list", task, 0, 0, api.OK)
		for _, l := range [][]int{nil, {}} {
			badIs(t, "an empty list", task, l, -1, api.CtGood, api.OK)
			mayIs(t, "an empty list", task, l, ints(0, 1), api.OK)
			nextIs(t, "an empty list", task, l, ints(0, 1), api.OK)
			provesIs(t, "an empty list", task, l, false, api.OK)
		}
		firstIs(t, "an empty list", task, ints(0, 1), api.OK)
	}
}
