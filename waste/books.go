package waste

import (
	"iter"

	"orlop/api"
	"orlop/bitset"
	"orlop/limits"
)

// spot is a kind and a place.
type spot struct{ kind, place int }

// counted returns what was counted of which kind at which place.
func counted(l []api.WaCount) map[spot]api.Span {
	kilos := map[spot]api.Span{}
	for _, c := range l {
		kilos[spot{c.Kind, c.Place}] = c.Kilos
	}
	return kilos
}

// books is a yard without an error that is looked at, and the papers that are false.
type books struct {
	api.WaYard
	wrong         bitset.Set
	before, after map[spot]api.Span
}

// look returns the books of a yard and papers that are false; or the first error.
func look(y api.WaYard, wrong []int) (books, api.Errno) {
	if _, _, e := Check(y); e != api.OK {
		return books{}, e
	}
	if e := limits.IndicesFault(wrong, len(y.Papers)); e != api.OK {
		return books{}, e
	}
	return books{WaYard: y, wrong: bitset.Of(wrong...), before: counted(y.First), after: counted(y.Last)}, api.OK
}

// all returns the set of all papers.
func (b books) all() bitset.Set { return bitset.Below(len(b.Papers)) }

// blaming returns the books with other papers that are false.
func (b books) blaming(wrong bitset.Set) books {
	b.wrong = wrong
	return b
}

// believed returns the papers of the journey of a paper that are not false.
func (b books) believed(paper int) bitset.Set {
	papers := bitset.Of(paper)
	if other := b.Papers[paper].Copy; other != lost {
		papers |= bitset.Of(other)
	}
	return papers &^ b.wrong
}

// journey returns the flow of the journey of a paper.
func (b books) journey(paper int) flow {
	p := b.Papers[paper]
	f := flow{Span: api.Span{Hi: api.MaxWaKilos}, from: node(p.From), to: node(p.To)}
	if first, is := foremost(b.believed(paper).All()); is {
		kilos := b.Papers[first].Kilos
		f.Span = api.Span{Lo: kilos, Hi: kilos}
	}
	return f
}

// flows returns all flows of a kind.
func (b books) flows(kind int) []flow {
	l := []flow{gone()}
	for place := range b.Places {
		at := spot{kind, place}
		should, is := b.after[at]
		if !is {
			should = api.Span{Hi: unlimited}
		}
		l = append(l, flow{b.before[at], nowhere, place}, flow{should, place, nowhere})
	}
	for i, p := range b.Papers {
		// The second paper of a journey is told by the first one.
		if second := p.Copy != lost && p.Copy < i; p.Kind == kind && !second {
			l = append(l, b.journey(i))
		}
	}
	return l
}

// differ reports whether a paper is the first one of a journey, and neither it nor its copy, which has other Kilos, is false.
func (b books) differ(paper int) bool {
	p := b.Papers[paper]
	return p.Copy > paper && b.believed(paper).Count() == 2 && b.Papers[p.Copy].Kilos != p.Kilos
}

// proofs yields all proofs that the books do not close, the one that Why wants first. If there is none they do: where the copies agree, and the sums of no places forbid it, there is a number for each flow, as there is a flow through a net if no cut of it is too narrow.
func (b books) proofs() iter.Seq[api.WaProof] {
	return func(yield func(api.WaProof) bool) {
		for paper := range b.Papers {
			if b.differ(paper) && !yield(api.WaProof{Paper: paper}) {
				return
			}
		}
		for kind := range b.Kinds {
			flows := b.flows(kind)
			for places := bitset.Set(1); places <= bitset.Below(len(b.Places)); places++ {
				n := over(flows, places)
				if n != 0 && !yield(api.WaProof{Paper: -1, Kind: kind, Places: int(places), Over: n}) {
					return
				}
			}
		}
	}
}

// closes reports whether the books close.
func (b books) closes() bool {
	_, open := foremost(b.proofs())
	return !open
}

// leastSets yields the least sets of papers that are false, in the order in which they are compared.
func (b books) leastSets() iter.Seq[bitset.Set] {
	return func(yield func(bitset.Set) bool) {
		fewest := len(b.Papers)
	search:
		for list := range bitset.Lists(len(b.Papers)) {
			switch {
			case list.Count() > fewest:
				break search
			case !b.blaming(list).closes():
				continue
			case !yield(list):
				break search
			}
			fewest = list.Count()
		}
	}
}
