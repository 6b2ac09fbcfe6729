package vent_test

import (
	"math/rand/v2"
	"slices"
	"testing"

	"orlop/api"
	"orlop/vent"
)

const (
	least    = -1 << 63
	greatest = 1<<63 - 1
)

// far is numbers that are no index of anything, far beyond the limits among them.
func far() []int {
	return []int{-1, 12, 16, 31, 32, 63, 64, 255, 256, 1 << 16, 1 << 31, 1<<32 + 1, 1 << 32, -1 << 32, least, least + 1, greatest - 1, greatest}
}

func pipe(from, to int) api.VnPipe { return api.VnPipe{From: from, To: to} }

func welded(from, to int) api.VnPipe { return api.VnPipe{From: from, To: to, Welded: true} }

func pipes(l ...api.VnPipe) []api.VnPipe { return l }

func on(tank int) api.VnStep { return api.VnStep{Tank: tank} }

func off(tank int) api.VnStep { return api.VnStep{Tank: tank, Off: true} }

func steps(l ...api.VnStep) []api.VnStep { return l }

func ints(l ...int) []int { return l }

// netOf is a net with the tanks a, b and so on, one for each byte of a string: a k is a Kept one.
func netOf(tanks string, l ...api.VnPipe) api.VnNet {
	n := api.VnNet{Pipes: l}
	for i := range tanks {
		n.Tanks = append(n.Tanks, api.VnTank{Name: string(rune('a' + i)), Kept: tanks[i] == 'k'})
	}
	return n
}

// netN and netW are the nets N and W of the chapter's examples.
func netN() api.VnNet {
	return netOf("k----", pipe(0, 1), pipe(1, 2), pipe(0, 2), pipe(2, 3), pipe(3, 4), pipe(2, 4))
}

func netW() api.VnNet {
	n := netN()
	n.Pipes[0].Welded = true
	return n
}

// complete is a net without Kept tanks in which a pipe joins each two tanks.
func complete(tanks int) api.VnNet {
	n := netOf("-------"[:tanks])
	for i := range tanks {
		for j := range i {
			n.Pipes = append(n.Pipes, pipe(j, i))
		}
	}
	return n
}

func copyOf(n api.VnNet) api.VnNet {
	return api.VnNet{Tanks: slices.Clone(n.Tanks), Pipes: slices.Clone(n.Pipes)}
}

func copyOfAll(lists [][]int) [][]int {
	var l [][]int
	for _, list := range lists {
		l = append(l, slices.Clone(list))
	}
	return l
}

func sameNets(a, b api.VnNet) bool {
	return slices.Equal(a.Tanks, b.Tanks) && slices.Equal(a.Pipes, b.Pipes)
}

func sameLists(a, b [][]int) bool { return slices.EqualFunc(a, b, slices.Equal[[]int]) }

func sameStates(a, b api.VnState) bool {
	return slices.Equal(a.Free, b.Free) && slices.Equal(a.Blowers, b.Blowers)
}

// joined tells of each two tanks whether an open way joins them: ways through the tanks up to each one are put together.
func joined(n api.VnNet, blanks []int) [api.MaxVnTanks][api.MaxVnTanks]bool {
	var is [api.MaxVnTanks][api.MaxVnTanks]bool
	for i := range n.Tanks {
		is[i][i] = true
	}
	for i, p := range n.Pipes {
		if !slices.Contains(blanks, i) {
			is[p.From][p.To], is[p.To][p.From] = true, true
		}
	}
	for through := range n.Tanks {
		for i := range n.Tanks {
			for j := range n.Tanks {
				is[i][j] = is[i][j] || is[i][through] && is[through][j]
			}
		}
	}
	return is
}

// isWay reports whether pipes are a way of gas, by the chapter's words: whether they are one from any Kept tank.
func isWay(n api.VnNet, wanted, way []int) bool {
	for start, tank := range n.Tanks {
		if tank.Kept && leads(n, wanted, way, start) {
			return true
		}
	}
	return false
}

// leads reports whether pipes are a way from a Kept tank to a wanted one, whose other tanks are neither.
func leads(n api.VnNet, wanted, way []int, start int) bool {
	reached := ints(start)
	for _, i := range way {
		if i < 0 || i >= len(n.Pipes) {
			return false
		}
		at, p := reached[len(reached)-1], n.Pipes[i]
		switch at {
		case p.From:
			at = p.To
		case p.To:
			at = p.From
		default:
			return false
		}
		if slices.Contains(reached, at) {
			return false
		}
		reached = append(reached, at)
	}
	for i, at := range reached {
		first, last := i == 0, i == len(reached)-1
		if slices.Contains(wanted, at) != last || n.Tanks[at].Kept != first {
			return false
		}
	}
	return true
}

// ways is all ways of gas: all lists of pipes are tried in which a pipe goes on from where the one before it led.
func ways(n api.VnNet, wanted []int) [][]int {
	var all [][]int
	var next func(way, reached []int)
	next = func(way, reached []int) {
		at := reached[len(reached)-1]
		if slices.Contains(wanted, at) {
			all = append(all, slices.Clone(way))
			return
		}
		for i, p := range n.Pipes {
			for _, ends := range [][2]int{{p.From, p.To}, {p.To, p.From}} {
				if ends[0] == at && !slices.Contains(reached, ends[1]) && !n.Tanks[ends[1]].Kept {
					next(append(slices.Clone(way), i), append(slices.Clone(reached), ends[1]))
				}
			}
		}
	}
	for start, tank := range n.Tanks {
		if tank.Kept {
			next(nil, ints(start))
		}
	}
	return all
}

// isOpen reports whether no pipe of a way is blanked.
func isOpen(way, blanks []int) bool {
	return !slices.ContainsFunc(way, func(i int) bool { return slices.Contains(blanks, i) })
}

// fewestPipes is the first of the open ways with the fewest pipes; nil if none is open.
func fewestPipes(all [][]int, blanks []int) []int {
	var best []int
	for _, way := range all {
		if isOpen(way, blanks) && (best == nil || len(way) < len(best) || len(way) == len(best) && slices.Compare(way, best) < 0) {
			best = way
		}
	}
	return best
}

// separate reports whether behind blanks none of all ways of gas is open.
func separate(all [][]int, blanks []int) bool {
	return !slices.ContainsFunc(all, func(way []int) bool { return isOpen(way, blanks) })
}

// lists calls a function with all lists of n of the pipes that are not Welded, in order, until it returns false.
func lists(n api.VnNet, size int, do func(list []int) bool) {
	var next func(list []int, from int) bool
	next = func(list []int, from int) bool {
		if len(list) == size {
			return do(list)
		}
		for i := from; i < len(n.Pipes); i++ {
			if !n.Pipes[i].Welded && !next(append(slices.Clone(list), i), i+1) {
				return false
			}
		}
		return true
	}
	next(nil, 0)
}

// fewestBlanks is the first of the fewest blanks behind which none of all ways of gas is open. All lists are tried, shorter ones before longer ones.
func fewestBlanks(n api.VnNet, all [][]int) (blanks []int, found bool) {
	for size := 0; size <= len(n.Pipes) && !found; size++ {
		lists(n, size, func(list []int) bool {
			blanks, found = list, separate(all, list)
			return !found
		})
	}
	if !found {
		return nil, false
	}
	return blanks, true
}

// proves reports whether all of some ways are ways of gas, no two of which have a pipe in common that is not Welded.
func proves(n api.VnNet, wanted []int, l [][]int) bool {
	for i, way := range l {
		if !isWay(n, wanted, way) {
			return false
		}
		for _, other := range l[:i] {
			for _, p := range way {
				if slices.Contains(other, p) && !n.Pipes[p].Welded {
					return false
				}
			}
		}
	}
	return true
}

// tanks is some tanks.
type tanks [api.MaxVnTanks]bool

func (l tanks) list() []int {
	var list []int
	for i, is := range l {
		if is {
			list = append(list, i)
		}
	}
	return list
}

// state is the tanks that are free, and those that have a blower.
type state struct{ free, blown tanks }

// possible reports whether a step can be done in a state.
func possible(n api.VnNet, s state, step api.VnStep) bool {
	return !n.Tanks[step.Tank].Kept && s.blown[step.Tank] == step.Off
}

// does is the state after a step, and after the gas has spread, pipe by pipe.
func does(n api.VnNet, blanks []int, s state, step api.VnStep) state {
	s.blown[step.Tank] = !step.Off
	s.free[step.Tank] = s.free[step.Tank] || !step.Off
	for spreads := true; spreads; {
		spreads = false
		for i, p := range n.Pipes {
			for _, ends := range [][2]int{{p.From, p.To}, {p.To, p.From}} {
				if !slices.Contains(blanks, i) && s.free[ends[0]] && !s.blown[ends[0]] && !s.free[ends[1]] {
					s.free[ends[0]], spreads = false, true
				}
			}
		}
	}
	return s
}

// doesAll is the state after steps, which all have to be possible, and the greatest number of tanks that had a blower at a time.
func doesAll(t *testing.T, n api.VnNet, blanks []int, l []api.VnStep) (s state, blowers int) {
	t.Helper()
	for _, step := range l {
		if !possible(n, s, step) {
			t.Fatalf("the step %v of %v is not possible", step, l)
		}
		s = does(n, blanks, s, step)
		blowers = max(blowers, len(s.blown.list()))
	}
	return s, blowers
}

// frees reports whether a state is one in which wanted tanks are freed.
func frees(s state, wanted []int) bool {
	for _, i := range wanted {
		if !s.free[i] {
			return false
		}
	}
	return s.blown == tanks{}
}

// turn is a step, and the state to which it leads.
type turn struct {
	step api.VnStep
	to   state
}

// turns is the steps that are possible in each state that can be reached with at most so many blowers, in order.
func turns(n api.VnNet, blanks []int, blowers int) map[state][]turn {
	all := map[state][]turn{}
	left := []state{{}}
	for len(left) > 0 {
		s := left[len(left)-1]
		left = left[:len(left)-1]
		if _, known := all[s]; known {
			continue
		}
		all[s] = nil
		for i := range n.Tanks {
			for _, step := range steps(on(i), off(i)) {
				if !possible(n, s, step) {
					continue
				}
				if to := does(n, blanks, s, step); len(to.blown.list()) <= blowers {
					all[s] = append(all[s], turn{step, to})
					left = append(left, to)
				}
			}
		}
	}
	return all
}

// plan is the first of the shortest steps with at most so many blowers that free wanted tanks; nil if there are none. How many steps are needed from each state is told backwards, from the states in which the tanks are freed.
func plan(n api.VnNet, blanks, wanted []int, blowers int) []api.VnStep {
	all := turns(n, blanks, blowers)
	need := map[state]int{}
	for s := range all {
		if frees(s, wanted) {
			need[s] = 0
		}
	}
	for length, found := 1, true; found; length++ {
		found = false
		for s, l := range all {
			if _, known := need[s]; known {
				continue
			}
			if slices.ContainsFunc(l, func(x turn) bool { m, known := need[x.to]; return known && m == length-1 }) {
				need[s], found = length, true
			}
		}
	}
	var s state
	var list []api.VnStep
	if _, known := need[s]; !known {
		return nil
	}
	for need[s] > 0 {
		i := slices.IndexFunc(all[s], func(x turn) bool { m, known := need[x.to]; return known && m == need[s]-1 })
		list = append(list, all[s][i].step)
		s = all[s][i].to
	}
	return list
}

// fewestBlowers is the least number of blowers with which there are steps that free wanted tanks; 0 if there are none.
func fewestBlowers(n api.VnNet, blanks, wanted []int) int {
	for blowers := 1; blowers <= len(n.Tanks); blowers++ {
		for s := range turns(n, blanks, blowers) {
			if frees(s, wanted) {
				return blowers
			}
		}
	}
	return 0
}

// many runs a test with random numbers that are the same in each run.
func many(t *testing.T, n int, test func(r *rand.Rand)) {
	t.Helper()
	for i := range n {
		test(rand.New(rand.NewPCG(uint64(i), 4)))
		if t.Failed() {
			t.Fatalf("failed with the random numbers %d", i)
		}
	}
}

// enough checks that a test met something a few times.
func enough(t *testing.T, what string, n, wanted int) {
	t.Helper()
	if n < wanted {
		t.Errorf("%s: only %d", what, n)
	}
}

// randomNet is a net in which about one of so many tanks is Kept, and one of so many pipes is Welded.
func randomNet(r *rand.Rand, kept, weld int) api.VnNet {
	n := netOf("-------"[:1+r.IntN(api.MaxVnTanks)])
	for i := range n.Tanks {
		n.Tanks[i].Kept = r.IntN(kept) == 0
	}
	if len(n.Tanks) == 1 {
		return n
	}
	for range r.IntN(api.MaxVnPipes + 1) {
		from := r.IntN(len(n.Tanks))
		to := (from + 1 + r.IntN(len(n.Tanks)-1)) % len(n.Tanks)
		n.Pipes = append(n.Pipes, api.VnPipe{From: from, To: to, Welded: r.IntN(weld) == 0})
	}
	return n
}

// randomWanted is some tanks that are not Kept; nil if there are none.
func randomWanted(r *rand.Rand, n api.VnNet) []int {
	var can, l []int
	for i, tank := range n.Tanks {
		if !tank.Kept {
			can = append(can, i)
		}
	}
	if len(can) == 0 {
		return nil
	}
	for _, i := range can {
		if r.IntN(4) == 0 {
			l = append(l, i)
		}
	}
	if len(l) == 0 {
		l = ints(can[r.IntN(len(can))])
	}
	return l
}

// randomBlanks is about one of so many pipes that are not Welded.
func randomBlanks(r *rand.Rand, n api.VnNet, of int) []int {
	var l []int
	for i, p := range n.Pipes {
		if !p.Welded && r.IntN(of) == 0 {
			l = append(l, i)
		}
	}
	return l
}

// randomAim is a net, blanks and wanted tanks: often the tanks are separated, but the net is not easy.
func randomAim(r *rand.Rand) (n api.VnNet, blanks, wanted []int) {
	for wanted == nil {
		n = randomNet(r, 2+r.IntN(6), 2+r.IntN(8))
		wanted = randomWanted(r, n)
	}
	blanks = randomBlanks(r, n, 2+r.IntN(4))
	if best, found := fewestBlanks(n, ways(n, wanted)); found && r.IntN(2) == 0 {
		blanks = best
	}
	return n, blanks, wanted
}

// randomSteps is up to n steps that are possible.
func randomSteps(r *rand.Rand, n api.VnNet, blanks []int, most int) []api.VnStep {
	var l []api.VnStep
	var s state
	for range most {
		i := r.IntN(len(n.Tanks))
		step := api.VnStep{Tank: i, Off: s.blown[i]}
		if possible(n, s, step) {
			l = append(l, step)
			s = does(n, blanks, s, step)
		}
	}
	return l
}

// joinedIs, afterIs, and so on check what a function returns.
func joinedIs(t *testing.T, what any, n api.VnNet, blanks, want []int, f api.Errno) {
	t.Helper()
	if got, e := vent.Joined(n, blanks); !slices.Equal(got, want) || e != f {
		t.Errorf("%v: Joined = %v, %d; want %v, %d", what, got, e, want, f)
	}
}

func afterIs(t *testing.T, what any, n api.VnNet, blanks []int, l []api.VnStep, free, blowers []int, f api.Errno) {
	t.Helper()
	if got, e := vent.After(n, blanks, l); !sameStates(got, api.VnState{Free: free, Blowers: blowers}) || e != f {
		t.Errorf("%v: After = %v, %d; want %v, %v, %d", what, got, e, free, blowers, f)
	}
}

func wayIs(t *testing.T, what any, n api.VnNet, blanks, wanted, want []int, f api.Errno) {
	t.Helper()
	if got, e := vent.Way(n, blanks, wanted); !slices.Equal(got, want) || e != f {
		t.Errorf("%v: Way = %v, %d; want %v, %d", what, got, e, want, f)
	}
}

func blanksAre(t *testing.T, what any, n api.VnNet, wanted, want []int, f api.Errno) {
	t.Helper()
	if got, e := vent.Blanks(n, wanted); !slices.Equal(got, want) || e != f {
		t.Errorf("%v: Blanks = %v, %d; want %v, %d", what, got, e, want, f)
	}
}

// waysAre checks that Ways returns so many ways that prove it, by the chapter's words; which ones is free.
func waysAre(t *testing.T, what any, n api.VnNet, wanted []int, want int, f api.Errno) {
	t.Helper()
	if got, e := vent.Ways(n, wanted); len(got) != want || e != f || !proves(n, wanted, got) {
		t.Errorf("%v: Ways = %v, %d; want %d of them, %d", what, got, e, want, f)
	}
}

func provesIs(t *testing.T, what any, n api.VnNet, wanted []int, l [][]int, want bool, f api.Errno) {
	t.Helper()
	if got, e := vent.Proves(n, wanted, l); got != want || e != f {
		t.Errorf("%v: Proves = %v, %d; want %v, %d", what, got, e, want, f)
	}
}

func planIs(t *testing.T, what any, n api.VnNet, blanks, wanted []int, blowers int, want []api.VnStep, f api.Errno) {
	t.Helper()
	if got, e := vent.Plan(n, blanks, wanted, blowers); !slices.Equal(got, want) || e != f {
		t.Errorf("%v: Plan = %v, %d; want %v, %d", what, got, e, want, f)
	}
}

func fewestIs(t *testing.T, what any, n api.VnNet, blanks, wanted []int, want int, f api.Errno) {
	t.Helper()
	if got, e := vent.Fewest(n, blanks, wanted); got != want || e != f {
		t.Errorf("%v: Fewest = %d, %d; want %d, %d", what, got, e, want, f)
	}
}
