package grade

import (
	"iter"

	"orlop/api"
)

// heap is a heap without an error that is looked at, and the ways to choose.
type heap struct {
	api.GrHeap
	ways rows
}

// look returns a heap that is looked at; or its error.
func look(h api.GrHeap) (*heap, api.Errno) {
	if e := Check(h); e != api.OK {
		return nil, e
	}
	return &heap{h, newRows()}, api.OK
}

// lookBy returns a heap that is looked at by a plan; or the first error.
func lookBy(h api.GrHeap, p api.GrPlan) (*heap, api.Errno) {
	if e := CheckPlan(h, p); e != api.OK {
		return nil, e
	}
	return look(h)
}

// shows yields how many bad pieces a sample of n of some pieces can show, if so many of them are bad, ascending, and how many samples show so many.
func (h *heap) shows(pieces, bad, n int) iter.Seq2[int, int] {
	return func(yield func(shown, samples int) bool) {
		good := pieces - bad
		for shown := max(0, n-good); shown <= min(n, bad); shown++ {
			if !yield(shown, h.ways[bad][shown]*h.ways[good][n-shown]) {
				return
			}
		}
	}
}

// passing yields how many bad pieces a heap with so many of them has left if it passes by a plan, for all that the samples can show then, and how many of all pairs of two samples show it. If the first sample decides, all second ones count that could be taken: each pair is as likely as each other one.
func (h *heap) passing(p api.GrPlan, bad int) iter.Seq2[int, int] {
	return func(yield func(left, pairs int) bool) {
		rest := h.Pieces - p.First
		for first, samples := range h.shows(h.Pieces, bad, p.First) {
			left := bad - first
			switch {
			case first >= p.Fail:
				return
			case first <= p.Pass:
				if !yield(left, samples*h.ways[rest][p.Second]) {
					return
				}
				continue
			}
			for second, more := range h.shows(rest, left, p.Second) {
				if first+second <= p.Total && !yield(left-second, samples*more) {
					return
				}
			}
		}
	}
}

// average returns the average of what a heap with so many bad pieces is worth: if it passes by a plan, what a function says of the bad pieces that are left; otherwise nothing.
func (h *heap) average(p api.GrPlan, bad int, worth func(left int) int) share {
	sum := 0
	for left, pairs := range h.passing(p, bad) {
		sum += pairs * worth(left)
	}
	return shareOf(sum, h.ways[h.Pieces][p.First]*h.ways[h.Pieces-p.First][p.Second])
}

// passes returns the chance that a heap with so many bad pieces passes by a plan.
func (h *heap) passes(p api.GrPlan, bad int) share {
	return h.average(p, bad, func(int) int { return 1 })
}

// stays returns what stays of a heap with so many bad pieces by a plan.
func (h *heap) stays(p api.GrPlan, bad int) share {
	return h.average(p, bad, func(left int) int { return left })
}

// price returns what is paid on average for a heap with so many bad pieces.
func (h *heap) price(pays []int, bad int) share {
	n := len(pays) - 1
	sum := 0
	for shown, samples := range h.shows(h.Pieces, bad, n) {
		sum += samples * pays[shown]
	}
	return shareOf(sum, h.ways[h.Pieces][n])
}

// each returns the share of each number of Bad, ascending.
func (h *heap) each(of func(bad int) share) []share {
	var l []share
	for bad := h.Bad.Lo; bad <= h.Bad.Hi; bad++ {
		l = append(l, of(bad))
	}
	return l
}

// smallest returns the least size of a sample that shows at most so many bad pieces no more often than wanted, with each number of Bad; false if there is none.
func (h *heap) smallest(pass int, wanted share) (int, bool) {
sizes:
	for n := 1; n <= h.Pieces; n++ {
		p := api.GrPlan{First: n, Pass: pass, Fail: pass + 1}
		for bad := h.Bad.Lo; bad <= h.Bad.Hi; bad++ {
			if !h.passes(p, bad).atMost(wanted) {
				continue sizes
			}
		}
		return n, true
	}
	return 0, false
}
