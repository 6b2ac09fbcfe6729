package waste_test

import (
	"math/bits"
	"math/rand/v2"
	"reflect"
	"slices"
	"testing"

	"orlop/api"
	"orlop/waste"
)

const (
	least    = -1 << 63
	greatest = 1<<63 - 1
	out      = api.WaOutside
)

// far is numbers that are in no range of the chapter.
func far() []int {
	return []int{least, least + 1, -1 << 62, -1 << 32, -1<<32 + 1, -1 << 31, -2, 1 << 31, 1 << 32, 1<<32 + 1, 1<<62 + 1, greatest - 1, greatest}
}

func span(lo, hi int) api.Span { return api.Span{Lo: lo, Hi: hi} }

func ints(l ...int) []int { return l }

func count(kind, place, lo, hi int) api.WaCount {
	return api.WaCount{Kind: kind, Place: place, Kilos: span(lo, hi)}
}

func counts(l ...api.WaCount) []api.WaCount { return l }

func paper(kind, from, to, kilos, other int) api.WaPaper {
	return api.WaPaper{Kind: kind, From: from, To: to, Kilos: kilos, Copy: other}
}

func papers(l ...api.WaPaper) []api.WaPaper { return l }

// differs is a proof with a paper, and sums is one with places.
func differs(paper int) api.WaProof { return api.WaProof{Paper: paper} }

func sums(kind, places, over int) api.WaProof {
	return api.WaProof{Paper: -1, Kind: kind, Places: places, Over: over}
}

// bare is a yard with so many kinds and places, and nothing else.
func bare(kinds, places int) (y api.WaYard) {
	for i := range kinds {
		y.Kinds = append(y.Kinds, "k"+string(rune('0'+i)))
	}
	for i := range places {
		y.Places = append(y.Places, "p"+string(rune('0'+i)))
	}
	return y
}

// yard is a yard with one kind and so many places.
func yard(places int, first []api.WaCount, l []api.WaPaper, last []api.WaCount) api.WaYard {
	y := bare(1, places)
	y.First, y.Papers, y.Last = first, l, last
	return y
}

// sampleY and sampleZ are Y and Z of the chapter's examples.
func sampleY() api.WaYard {
	return api.WaYard{
		Kinds:  []string{"oil", "paint"},
		Places: []string{"yard", "pit"},
		First:  counts(count(0, 0, 1000, 1000)),
		Papers: papers(paper(0, 0, 1, 600, 1), paper(0, 0, 1, 500, 0), paper(0, 0, out, 300, -1)),
		Last:   counts(count(0, 0, 100, 100), count(0, 1, 600, 600)),
	}
}

func sampleZ() api.WaYard {
	y := sampleY()
	y.Last = counts(count(0, 0, 100, 200))
	return y
}

func copyOf(y api.WaYard) api.WaYard {
	y.Kinds, y.Places = slices.Clone(y.Kinds), slices.Clone(y.Places)
	y.First, y.Papers, y.Last = slices.Clone(y.First), slices.Clone(y.Papers), slices.Clone(y.Last)
	return y
}

func sameYards(a, b api.WaYard) bool {
	return slices.Equal(a.Kinds, b.Kinds) && slices.Equal(a.Places, b.Places) && slices.Equal(a.First, b.First) && slices.Equal(a.Papers, b.Papers) && slices.Equal(a.Last, b.Last)
}

// listOf is the indices in a set, by bits.
func listOf(set int) (l []int) {
	for i := range bits.Len(uint(set)) {
		if set>>i&1 == 1 {
			l = append(l, i)
		}
	}
	return l
}

// allOf is the list of all papers.
func allOf(y api.WaYard) []int { return listOf(1<<len(y.Papers) - 1) }

// without is a list without a number.
func without(l []int, n int) []int {
	return slices.DeleteFunc(slices.Clone(l), func(m int) bool { return m == n })
}

// truth is what was there of each count of First, and how much went on the journey of each paper.
type truth struct{ first, went []int }

// leftIn is what is left at a place of a kind in a truth.
func leftIn(y api.WaYard, x truth, kind, place int) (n int) {
	for i, c := range y.First {
		if c.Kind == kind && c.Place == place {
			n += x.first[i]
		}
	}
	for i, p := range y.Papers {
		if p.Kind != kind || p.Copy >= 0 && p.Copy < i {
			continue
		}
		if p.To == place {
			n += x.went[i]
		}
		if p.From == place {
			n -= x.went[i]
		}
	}
	return n
}

func within(n int, s api.Span) bool { return n >= s.Lo && n <= s.Hi }

// countAt is what a list counts at a place of a kind; false if there is no count.
func countAt(l []api.WaCount, kind, place int) (api.Span, bool) {
	for _, c := range l {
		if c.Kind == kind && c.Place == place {
			return c.Kilos, true
		}
	}
	return api.Span{}, false
}

// closedBy is whether a truth closes a yard with papers that are false, by the chapter's words.
func closedBy(y api.WaYard, wrong []int, x truth) bool {
	for i, c := range y.First {
		if !within(x.first[i], c.Kilos) {
			return false
		}
	}
	for i, p := range y.Papers {
		if !within(x.went[i], span(0, 1000000)) || p.Copy >= 0 && x.went[i] != x.went[p.Copy] {
			return false
		}
		if !slices.Contains(wrong, i) && x.went[i] != p.Kilos {
			return false
		}
	}
	for kind := range y.Kinds {
		for place := range y.Places {
			left := leftIn(y, x, kind, place)
			if s, counted := countAt(y.Last, kind, place); left < 0 || counted && !within(left, s) {
				return false
			}
		}
	}
	return true
}

// goneIn is what went outside of a kind in a truth, less what came from there.
func goneIn(y api.WaYard, x truth, kind int) int { return leftIn(y, x, kind, out) }

// allows is what the journey of a paper allows with papers that are false.
func allows(y api.WaYard, wrong []int, i int) api.Span {
	journey := ints(i)
	if other := y.Papers[i].Copy; other >= 0 {
		journey = ints(min(i, other), max(i, other))
	}
	for _, j := range journey {
		if !slices.Contains(wrong, j) {
			return span(y.Papers[j].Kilos, y.Papers[j].Kilos)
		}
	}
	return span(0, 1000000)
}

// arc is between which numbers it can be what goes from a node to another one, and what does.
type arc struct{ from, to, lo, hi, n int }

// balanced changes what goes on arcs, until as much comes to each of so many nodes as goes from it; false if it cannot be so.
func balanced(arcs []arc, nodes int) bool {
	for {
		excess := make([]int, nodes)
		for _, a := range arcs {
			excess[a.to] += a.n
			excess[a.from] -= a.n
		}
		source := slices.IndexFunc(excess, func(n int) bool { return n > 0 })
		if source < 0 {
			return true
		}
		if !drained(arcs, excess, source) {
			return false
		}
	}
}

// drained brings some of the excess of a node to one that has too little, by a way with the fewest arcs; false if there is none.
func drained(arcs []arc, excess []int, source int) bool {
	by := make([]int, len(excess)) // 1 above the arc by which a node is reached; below 0 if it is reached against it
	for queue := ints(source); len(queue) > 0; queue = queue[1:] {
		node := queue[0]
		if excess[node] < 0 {
			push(arcs, by, source, node, min(excess[source], -excess[node]))
			return true
		}
		for i, a := range arcs {
			if a.from == node && a.n < a.hi && a.to != source && by[a.to] == 0 {
				by[a.to] = i + 1
				queue = append(queue, a.to)
			}
			if a.to == node && a.n > a.lo && a.from != source && by[a.from] == 0 {
				by[a.from] = -i - 1
				queue = append(queue, a.from)
			}
		}
	}
	return false
}

// push brings as much as goes, and at most so much, from the source to a node.
func push(arcs []arc, by []int, source, to, most int) {
	way := func(do func(a *arc, against bool)) {
		for node := to; node != source; {
			against := by[node] < 0
			a := &arcs[max(by[node], -by[node])-1]
			do(a, against)
			if against {
				node = a.to
			} else {
				node = a.from
			}
		}
	}
	way(func(a *arc, against bool) {
		if against {
			most = min(most, a.n-a.lo)
		} else {
			most = min(most, a.hi-a.n)
		}
	})
	way(func(a *arc, against bool) {
		if against {
			a.n -= most
		} else {
			a.n += most
		}
	})
}

// limit is a further span of one journey, that of a paper; or, if the paper is WaOutside, of what is gone of a kind.
type limit struct {
	paper, kind int
	span        api.Span
}

// truthOf finds a truth that closes a yard with papers that are false, and keeps to limits; false if there is none. It is found by balancing: the nodes are the places, the outside, and one from which comes what was there at first and to which goes what is left.
func truthOf(y api.WaYard, wrong []int, limits ...limit) (truth, bool) {
	x := truth{make([]int, len(y.First)), make([]int, len(y.Papers))}
	const far = 1 << 50
	outside, stock := len(y.Places), len(y.Places)+1
	for kind := range y.Kinds {
		var arcs []arc
		var at []*int
		add := func(from, to int, s api.Span, of *int) {
			arcs, at = append(arcs, arc{from, to, s.Lo, s.Hi, 0}), append(at, of)
		}
		for i, c := range y.First {
			if c.Kind == kind {
				add(stock, c.Place, c.Kilos, &x.first[i])
			}
		}
		for place := range y.Places {
			s, counted := countAt(y.Last, kind, place)
			if !counted {
				s = span(0, far)
			}
			add(place, stock, s, new(int))
		}
		all := span(-far, far)
		for _, l := range limits {
			if l.paper == out && l.kind == kind {
				all = l.span
			}
		}
		add(outside, stock, all, new(int))
		for i, p := range y.Papers {
			if p.Kind != kind || p.Copy >= 0 && p.Copy < i {
				continue
			}
			s := allows(y, wrong, i)
			for _, l := range limits {
				if l.paper >= 0 && (l.paper == i || l.paper == p.Copy) {
					s = span(max(s.Lo, l.span.Lo), min(s.Hi, l.span.Hi))
				}
			}
			node := func(place int) int {
				if place == out {
					return outside
				}
				return place
			}
			add(node(p.From), node(p.To), s, &x.went[i])
		}
		for i := range arcs {
			if arcs[i].lo > arcs[i].hi {
				return truth{}, false
			}
			arcs[i].n = min(max(0, arcs[i].lo), arcs[i].hi)
		}
		if !balanced(arcs, stock+1) {
			return truth{}, false
		}
		for i, a := range arcs {
			*at[i] = a.n
		}
	}
	for i, p := range y.Papers {
		if p.Copy >= 0 && p.Copy < i {
			x.went[i] = x.went[p.Copy]
		}
	}
	// Of two copies that differ, and are not false, just the first one is allowed.
	return x, closedBy(y, wrong, x)
}

// leftEnds is the least and the greatest that some places can have left of a kind, and shouldEnds what they should have (false if there is no greatest), by the chapter's words.
func leftEnds(y api.WaYard, wrong []int, kind, places int) (s api.Span) {
	for _, c := range y.First {
		if c.Kind == kind && places>>c.Place&1 == 1 {
			s.Lo += c.Kilos.Lo
			s.Hi += c.Kilos.Hi
		}
	}
	in := func(place int) bool { return place >= 0 && places>>place&1 == 1 }
	for i, p := range y.Papers {
		if p.Kind != kind || p.Copy >= 0 && p.Copy < i {
			continue
		}
		a := allows(y, wrong, i)
		if in(p.To) && !in(p.From) {
			s.Lo += a.Lo
			s.Hi += a.Hi
		}
		if in(p.From) && !in(p.To) {
			s.Lo -= a.Hi
			s.Hi -= a.Lo
		}
	}
	return s
}

func shouldEnds(y api.WaYard, kind, places int) (s api.Span, most bool) {
	most = true
	for place := range y.Places {
		if places>>place&1 == 1 {
			c, counted := countAt(y.Last, kind, place)
			s.Lo += c.Lo
			s.Hi += c.Hi
			most = most && counted
		}
	}
	return s, most
}

// isProof is whether something is a proof, by the chapter's words.
func isProof(y api.WaYard, wrong []int, p api.WaProof) bool {
	if p.Paper != -1 {
		if p.Paper < 0 || p.Paper >= len(y.Papers) || p.Kind != 0 || p.Places != 0 || p.Over != 0 {
			return false
		}
		x := y.Papers[p.Paper]
		return x.Copy > p.Paper && !slices.Contains(wrong, p.Paper) && !slices.Contains(wrong, x.Copy) && y.Papers[x.Copy].Kilos != x.Kilos
	}
	if p.Kind < 0 || p.Kind >= len(y.Kinds) || p.Places < 1 || p.Places >= 1<<len(y.Places) {
		return false
	}
	left := leftEnds(y, wrong, p.Kind, p.Places)
	should, most := shouldEnds(y, p.Kind, p.Places)
	if p.Over > 0 {
		return most && p.Over == left.Lo-should.Hi
	}
	return p.Over < 0 && p.Over == left.Hi-should.Lo
}

// proofsOf is all proofs that a yard does not close with papers that are false, in the order in which Why wants them.
func proofsOf(y api.WaYard, wrong []int) (l []api.WaProof) {
	for i := range y.Papers {
		if p := differs(i); isProof(y, wrong, p) {
			l = append(l, p)
		}
	}
	for kind := range y.Kinds {
		for places := 1; places < 1<<len(y.Places); places++ {
			left := leftEnds(y, wrong, kind, places)
			should, _ := shouldEnds(y, kind, places)
			for _, over := range ints(left.Lo-should.Hi, left.Hi-should.Lo) {
				if p := sums(kind, places, over); isProof(y, wrong, p) && !slices.Contains(l, p) {
					l = append(l, p)
				}
			}
		}
	}
	return l
}

// closings is, for each set of papers that are false, by bits, whether the yard closes with them, as truthOf finds.
func closings(y api.WaYard) (l []bool) {
	for set := range 1 << len(y.Papers) {
		_, closes := truthOf(y, listOf(set))
		l = append(l, closes)
	}
	return l
}

// leastOf is all least sets, in the order in which they are compared; by the sets with which a yard closes.
func leastOf(closes []bool) (l [][]int) {
	for set, does := range closes {
		if does {
			l = append(l, listOf(set))
		}
	}
	if len(l) == 0 {
		return nil
	}
	fewest := len(slices.MinFunc(l, func(a, b []int) int { return len(a) - len(b) }))
	l = slices.DeleteFunc(l, func(list []int) bool { return len(list) > fewest })
	slices.SortFunc(l, slices.Compare)
	return l
}

// mustOf is the papers that are in each set with which a yard closes; mayOf is those that are in some least set.
func mustOf(closes []bool) []int {
	must := len(closes) - 1
	for set, does := range closes {
		if does {
			must &= set
		}
	}
	return listOf(must)
}

func mayOf(closes []bool) (l []int) {
	for _, list := range leastOf(closes) {
		l = append(l, list...)
	}
	slices.Sort(l)
	return slices.Compact(l)
}

func from(r *rand.Rand, lo, hi int) int { return lo + r.IntN(hi-lo+1) }

// size is how large a random yard is, and its numbers.
type size struct{ kinds, places, papers, kilos int }

// randomSize is a size with at most so many papers.
func randomSize(r *rand.Rand, most int) size {
	return size{from(r, 1, 4), from(r, 1, 4), from(r, 0, most), ints(2, 9, 1000, 1000000)[r.IntN(4)]}
}

// spots is all pairs of a kind and a place, in any order.
func spots(r *rand.Rand, y api.WaYard) (l [][2]int) {
	for kind := range y.Kinds {
		for place := range y.Places {
			l = append(l, [2]int{kind, place})
		}
	}
	r.Shuffle(len(l), func(i, j int) { l[i], l[j] = l[j], l[i] })
	return l
}

// around is a span with a number in it, from 0 to 1000000.
func around(r *rand.Rand, n, wide int) api.Span {
	return span(max(0, n-r.IntN(wide+1)), min(1000000, n+r.IntN(wide+1)))
}

// randomPapers is papers in any order, and how much went on the journey of each; they tell the truth.
func randomPapers(r *rand.Rand, y api.WaYard, s size) (l []api.WaPaper, went []int) {
	for len(l) < s.papers {
		p := paper(r.IntN(len(y.Kinds)), from(r, out, len(y.Places)-1), from(r, out, len(y.Places)-1), from(r, 0, s.kilos), -1)
		if p.From == p.To {
			continue
		}
		l = append(l, p)
		if n := len(l); n < s.papers && r.IntN(2) == 0 {
			l[n-1].Copy, p.Copy = n, n-1
			l = append(l, p)
		}
	}
	went = make([]int, len(l))
	order := r.Perm(len(l))
	mixed := make([]api.WaPaper, len(l))
	for i, p := range l {
		if p.Copy >= 0 {
			p.Copy = order[p.Copy]
		}
		mixed[order[i]] = p
		went[order[i]] = p.Kilos
	}
	return mixed, went
}

// randomCase is a yard, a truth, and papers that are false with which this truth closes it; all other papers are true.
func randomCase(r *rand.Rand, s size) (api.WaYard, truth, []int) {
	for {
		// More can go away than counts can tell: then another one is made.
		if y, x, wrong := nearlyCase(r, s); closedBy(y, wrong, x) {
			return y, x, wrong
		}
	}
}

func nearlyCase(r *rand.Rand, s size) (y api.WaYard, x truth, wrong []int) {
	y = bare(s.kinds, s.places)
	y.Papers, x.went = randomPapers(r, y, s)
	wide := ints(0, 0, s.kilos/5, s.kilos)[r.IntN(4)]
	l := spots(r, y)
	for _, at := range l {
		// What goes away has to be there.
		need := max(0, -leftIn(y, x, at[0], at[1]))
		if len(y.First) == api.MaxWaCounts || need == 0 && r.IntN(2) == 0 {
			continue
		}
		n := min(1000000, need+from(r, 0, s.kilos))
		y.First = append(y.First, api.WaCount{Kind: at[0], Place: at[1], Kilos: around(r, n, wide)})
		x.first = append(x.first, n)
	}
	for i := range y.Papers {
		if r.IntN(4) == 0 {
			y.Papers[i].Kilos = from(r, 0, s.kilos)
			wrong = append(wrong, i)
		}
	}
	r.Shuffle(len(l), func(i, j int) { l[i], l[j] = l[j], l[i] })
	for _, at := range l[:min(len(l), r.IntN(api.MaxWaCounts+1))] {
		if n := leftIn(y, x, at[0], at[1]); within(n, span(0, 1000000)) {
			y.Last = append(y.Last, api.WaCount{Kind: at[0], Place: at[1], Kilos: around(r, n, wide)})
		}
	}
	return y, x, wrong
}

// randomYard is a yard that closes with some papers, or with none.
func randomYard(r *rand.Rand, s size) api.WaYard {
	y, _, _ := randomCase(r, s)
	if len(y.Last) > 0 && r.IntN(3) == 0 {
		y.Last[r.IntN(len(y.Last))].Kilos = around(r, from(r, 0, s.kilos), s.kilos/5)
	}
	if len(y.First) > 0 && r.IntN(6) == 0 {
		y.First[r.IntN(len(y.First))].Kilos = around(r, from(r, 0, s.kilos), s.kilos/5)
	}
	return y
}

// randomWrong is some papers of a yard.
func randomWrong(r *rand.Rand, y api.WaYard) []int {
	set := r.IntN(1 << len(y.Papers))
	if r.IntN(2) == 0 {
		set |= r.IntN(1 << len(y.Papers))
	}
	return listOf(set)
}

// many runs a test with random numbers that are the same in each run.
func many(t *testing.T, n int, test func(r *rand.Rand)) {
	t.Helper()
	for i := range n {
		test(rand.New(rand.NewPCG(uint64(i), 9)))
		if t.Failed() {
			t.Fatalf("failed with the random numbers %d", i)
		}
	}
}

// enough checks that random arguments led to something often enough.
func enough(t *testing.T, what string, n, want int) {
	t.Helper()
	if n < want {
		t.Errorf("%s: only %d times", what, n)
	}
}

// checks, closesIs, and so on check what a function returns.
func checks(t *testing.T, what any, y api.WaYard, part, at int, f api.Errno) {
	t.Helper()
	if p, a, e := waste.Check(y); p != part || a != at || e != f {
		t.Errorf("%v: Check of %+v = %d, %d, %d; want %d, %d, %d", what, y, p, a, e, part, at, f)
	}
}

func closesIs(t *testing.T, what any, y api.WaYard, wrong []int, want bool, f api.Errno) {
	t.Helper()
	if got, e := waste.Closes(y, wrong); got != want || e != f {
		t.Errorf("%v: Closes of %+v with %v = %v, %d; want %v, %d", what, y, wrong, got, e, want, f)
	}
}

func whyIs(t *testing.T, what any, y api.WaYard, wrong []int, want api.WaProof, f api.Errno) {
	t.Helper()
	if got, e := waste.Why(y, wrong); got != want || e != f {
		t.Errorf("%v: Why of %+v with %v = %+v, %d; want %+v, %d", what, y, wrong, got, e, want, f)
	}
}

func provesIs(t *testing.T, what any, y api.WaYard, wrong []int, p api.WaProof, want bool, f api.Errno) {
	t.Helper()
	if got, e := waste.Proves(y, wrong, p); got != want || e != f {
		t.Errorf("%v: Proves of %+v with %v and %+v = %v, %d; want %v, %d", what, y, wrong, p, got, e, want, f)
	}
}

func fewestIs(t *testing.T, what any, y api.WaYard, want []int, f api.Errno) {
	t.Helper()
	if got, e := waste.Fewest(y); !slices.Equal(got, want) || e != f {
		t.Errorf("%v: Fewest of %+v = %v, %d; want %v, %d", what, y, got, e, want, f)
	}
}

func mustIs(t *testing.T, what any, y api.WaYard, want []int, f api.Errno) {
	t.Helper()
	if got, e := waste.Must(y); !slices.Equal(got, want) || e != f {
		t.Errorf("%v: Must of %+v = %v, %d; want %v, %d", what, y, got, e, want, f)
	}
}

func mayIs(t *testing.T, what any, y api.WaYard, want []int, f api.Errno) {
	t.Helper()
	if got, e := waste.May(y); !slices.Equal(got, want) || e != f {
		t.Errorf("%v: May of %+v = %v, %d; want %v, %d", what, y, got, e, want, f)
	}
}

func rangeIs(t *testing.T, what any, y api.WaYard, wrong []int, paper int, want api.Span, f api.Errno) {
	t.Helper()
	if got, e := waste.Range(y, wrong, paper); got != want || e != f {
		t.Errorf("%v: Range of %+v with %v of %d = %v, %d; want %v, %d", what, y, wrong, paper, got, e, want, f)
	}
}

func goneIs(t *testing.T, what any, y api.WaYard, wrong []int, kind int, want api.Span, f api.Errno) {
	t.Helper()
	if got, e := waste.Gone(y, wrong, kind); got != want || e != f {
		t.Errorf("%v: Gone of %+v with %v of %d = %v, %d; want %v, %d", what, y, wrong, kind, got, e, want, f)
	}
}

func writesIs(t *testing.T, what any, y api.WaYard, want string, f api.Errno) {
	t.Helper()
	if got, e := waste.Write(y); got != want || e != f {
		t.Errorf("%v: Write of %+v = %q, %d; want %q, %d", what, y, got, e, want, f)
	}
}

func readIs(t *testing.T, text string, want api.WaYard, f api.Errno) {
	t.Helper()
	if got, e := waste.Read(text); !sameYards(got, want) || e != f {
		t.Errorf("Read of %q = %+v, %d; want %+v, %d", text, got, e, want, f)
	}
}

// allErrors checks that all functions but Check and Read return an error, and nothing else.
func allErrors(t *testing.T, what any, y api.WaYard, wrong []int, paper, kind int, f api.Errno) {
	t.Helper()
	wrongErrors(t, what, y, wrong, paper, kind, f)
	fewestIs(t, what, y, nil, f)
	mustIs(t, what, y, nil, f)
	mayIs(t, what, y, nil, f)
	writesIs(t, what, y, "", f)
}

// wrongErrors checks that all functions with papers that are false return an error, and nothing else.
func wrongErrors(t *testing.T, what any, y api.WaYard, wrong []int, paper, kind int, f api.Errno) {
	t.Helper()
	closesIs(t, what, y, wrong, false, f)
	whyIs(t, what, y, wrong, api.WaProof{}, f)
	provesIs(t, what, y, wrong, differs(0), false, f)
	provesIs(t, what, y, wrong, sums(0, 1, 100), false, f)
	rangeIs(t, what, y, wrong, paper, span(0, 0), f)
	goneIs(t, what, y, wrong, kind, span(0, 0), f)
}

// same checks that two calls returned the same.
func same(t *testing.T, what string, a, b any) {
	t.Helper()
	if !reflect.DeepEqual(a, b) {
		t.Errorf("%s: %v and %v", what, a, b)
	}
}
