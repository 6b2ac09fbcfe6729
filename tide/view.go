package tide

import (
	"iter"
	"math"

	"orlop/api"
)

// box is all truths of a tide: the spans of Slope, Draft, Height and Wind, in the order in which truths are compared.
type box [4]api.Span

// corners yields the truths of a box with each number at an end of its span.
func (x box) corners() iter.Seq[api.TdTruth] {
	return func(yield func(api.TdTruth) bool) {
		for upper := range 1 << len(x) {
			var ends [len(x)]int
			for i, s := range x {
				ends[i] = s.Lo
				if upper>>i&1 == 1 {
					ends[i] = s.Hi
				}
			}
			if !yield(api.TdTruth{Slope: ends[0], Draft: ends[1], Height: ends[2], Wind: ends[3]}) {
				return
			}
		}
	}
}

// bounds returns the least and the greatest of what a function makes of some values, of which there is at least one.
func bounds[T any](values iter.Seq[T], number func(T) int) api.Span {
	s := api.Span{Lo: math.MaxInt, Hi: math.MinInt}
	for v := range values {
		n := number(v)
		s = api.Span{Lo: min(s.Lo, n), Hi: max(s.Hi, n)}
	}
	return s
}

// view is a shore on one tide: all truths of the tide, and by how much more than by the water the ship is lifted.
type view struct {
	shore
	box
	lift int
}

// place returns where the ship comes to in a truth.
func (v view) place(t api.TdTruth) int {
	return divide(api.All*(t.Height+t.Wind-t.Draft+v.lift), t.Slope)
}

// divide returns n divided by d, which is above 0, rounded down.
func divide(n, d int) int {
	q := n / d
	if n%d < 0 {
		q--
	}
	return q
}

// reach returns the least and the greatest place to which the ship comes. If all but one of the numbers of a truth stay, the place only falls or only rises with that one: so both are at corners.
func (v view) reach() api.Span {
	return bounds(v.corners(), func(t api.TdTruth) int { return v.place(t) })
}

// surely reports whether the ship comes to within the marks in each truth.
func (v view) surely() bool {
	r := v.reach()
	return v.Marks.Lo <= r.Lo && r.Hi <= v.Marks.Hi
}

// firstMiss returns the first truth in which the ship does not come to within the marks; there has to be one. The numbers are found one after the other: the first that leaves such a truth, whatever the numbers behind it are.
func (v view) firstMiss() api.TdTruth {
	for i, s := range v.box {
		for n := s.Lo; n <= s.Hi; n++ {
			v.box[i] = api.Span{Lo: n, Hi: n}
			if !v.surely() {
				break
			}
		}
	}
	return api.TdTruth{Slope: v.box[0].Lo, Draft: v.box[1].Lo, Height: v.box[2].Lo, Wind: v.box[3].Lo}
}
