package waste

import (
	"orlop/api"
	"orlop/limits"
	"orlop/names"
)

// lost is the Copy of a paper whose other copy is lost.
const lost = -1

// section is a part of a yard: how many elements it has, and the error of each.
type section struct {
	elements int
	fault    func(at int) api.Errno
}

// sections returns the parts of a yard, from that on that Check tells as 2.
func sections(y api.WaYard) [5]section {
	return [...]section{
		{len(y.Kinds), func(at int) api.Errno { return nameFault(y.Kinds, at) }},
		{len(y.Places), func(at int) api.Errno { return nameFault(y.Places, at) }},
		{len(y.First), func(at int) api.Errno { return countFault(y, y.First, at) }},
		{len(y.Papers), func(at int) api.Errno { return paperFault(y, at) }},
		{len(y.Last), func(at int) api.Errno { return countFault(y, y.Last, at) }},
	}
}

// Check returns the part, the index in it and the error of a yard. The part is 1 for how many elements the others have, and then 2 for the kinds, 3 for the places, 4 for the counts of First, 5 for the papers, and 6 for the counts of Last.
func Check(y api.WaYard) (part, at int, e api.Errno) {
	if !sized(y) {
		return 1, 0, api.ErrLong
	}
	for i, s := range sections(y) {
		for at := range s.elements {
			if e := s.fault(at); e != api.OK {
				return 2 + i, at, e
			}
		}
	}
	return 0, 0, api.OK
}

// sized reports whether a yard has as many kinds, places, papers and counts as stated.
func sized(y api.WaYard) bool {
	return limits.Within(1, api.MaxWaKinds, len(y.Kinds)) &&
		limits.Within(1, api.MaxWaPlaces, len(y.Places)) &&
		limits.Within(0, api.MaxWaPapers, len(y.Papers)) &&
		limits.Within(0, api.MaxWaCounts, len(y.First), len(y.Last))
}

// nameFault returns the error of the name of a list that has an index.
func nameFault(list []string, at int) api.Errno {
	return names.Fault(list, at, func(name string) string { return name })
}

// countFault returns the error of the count of a list that has an index.
func countFault(y api.WaYard, l []api.WaCount, at int) api.Errno {
	c := l[at]
	if !limits.Within(0, len(y.Kinds)-1, c.Kind) || !limits.Within(0, len(y.Places)-1, c.Place) {
		return api.ErrNone
	}
	if _, twice := counted(l[:at])[spot{c.Kind, c.Place}]; twice {
		return api.ErrTwice
	}
	return limits.SpanFault(0, api.MaxWaKilos, c.Kilos)
}

// paperFault returns the error of the paper of a yard that has an index.
func paperFault(y api.WaYard, at int) api.Errno {
	p := y.Papers[at]
	// WaOutside is the number below all indices.
	if !limits.Within(0, len(y.Kinds)-1, p.Kind) || !limits.Within(api.WaOutside, len(y.Places)-1, p.From, p.To) {
		return api.ErrNone
	}
	if p.From == p.To {
		return api.ErrArg
	}
	if !limits.Within(0, api.MaxWaKilos, p.Kilos) {
		return api.ErrRange
	}
	if p.Copy != lost && !copies(y.Papers, at) {
		return api.ErrDown
	}
	return api.OK
}

// copies reports whether the paper of a list that has an index, and the one that its Copy tells, are copies of each other.
func copies(papers []api.WaPaper, at int) bool {
	p := papers[at]
	if p.Copy == at || !limits.Within(0, len(papers)-1, p.Copy) {
		return false
	}
	other := papers[p.Copy]
	return other == api.WaPaper{Kind: p.Kind, From: p.From, To: p.To, Kilos: other.Kilos, Copy: at}
}
