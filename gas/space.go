package gas

import (
	"iter"

	"orlop/api"
	"orlop/limits"
)

// space is a space that is watched: its plan, and what instruments showed, by minutes.
type space struct {
	api.GsSpace
	read map[int][]api.GsReading
}

// watch returns a space with the readings that are known at a minute, and the levels that there can be at this minute; or the first error.
func watch(plan api.GsSpace, l []api.GsReading, minute int) (space, levels, api.Errno) {
	if _, _, e := Check(plan); e != api.OK {
		return space{}, levels{}, e
	}
	if e := readingsFault(plan, l); e != api.OK {
		return space{}, levels{}, e
	}
	if !limits.Within(0, api.MaxGsMinutes, minute) {
		return space{}, levels{}, api.ErrRange
	}
	w := space{plan, make(map[int][]api.GsReading)}
	for _, r := range l {
		if r.Minute <= minute {
			w.read[r.Minute] = append(w.read[r.Minute], r)
		}
	}
	for m, now := range w.follow(0, w.start()) {
		if m == minute {
			return w, now, api.OK
		}
	}
	return space{}, levels{}, api.ErrDown
}

// start returns the levels that there can be at first, before anything is read.
func (w space) start() levels { return between(w.Start.Lo, w.Start.Hi) }

// follow yields the minutes from one on, with the levels that there can be if at first there can be these. It ends before a minute at which there can be none.
func (w space) follow(minute int, first levels) iter.Seq2[int, levels] {
	return func(yield func(int, levels) bool) {
		now := first
		for m := minute; m <= api.MaxGsMinutes; m++ {
			now = w.agreeing(m, now)
			if now == (levels{}) || !yield(m, now) {
				return
			}
			now = now.after(w.change(m))
		}
	}
}

// agreeing returns those of some levels that agree with what was read at a minute.
func (w space) agreeing(minute int, l levels) levels {
	for _, r := range w.read[minute] {
		wrong := w.Tools[r.Tool].Err
		l = l.common(between(r.Shown-wrong, r.Shown+wrong))
	}
	return l
}

// change returns by which numbers the level can change from a minute to the next one.
func (w space) change(minute int) api.Span {
	for _, b := range w.Blows {
		if limits.Within(b.Lo, b.Hi, minute) {
			return w.Blow
		}
	}
	return w.Rise
}

// until returns the last minute until which no level is above the limit, if at a minute there can be these; -1 if one of these is above it.
func (w space) until(minute int, l levels) int {
	last := -1
	for m, now := range w.follow(minute, l) {
		if now.Hi > w.Limit {
			break
		}
		last = m
	}
	return last
}

// lowestTruth returns the levels up to a minute in the first truth with a level at this minute, or a greater one; there has to be one with this level.
//
// Of two truths the lesser levels at all minutes are a truth, too. So the first one is the one that is lowest at each minute, and it can be found from the last minute backwards.
func (w space) lowestTruth(minute, last int) []int {
	list := make([]int, minute+1)
	for m, now := range w.follow(0, w.start()) {
		if m == minute {
			break
		}
		list[m] = now.Lo
	}
	list[minute] = last
	source := func(m int) int {
		to := list[m+1]
		if to == 0 {
			// What would fall below 0 is held there: if any level comes to 0, the lowest one does.
			return list[m]
		}
		return max(list[m], to-w.change(m).Hi)
	}
	for m := minute - 1; m >= 0; m-- {
		list[m] = source(m)
	}
	return list
}

// holds returns until when a reading holds; -1 if it does not at its minute.
func (w space) holds(r api.GsReading) int {
	most := r.Shown + w.Tools[r.Tool].Err
	if most < 0 {
		return -1
	}
	most = held(most)
	return w.until(r.Minute, between(most, most))
}

// fewest returns the fewest minutes at which the space is read, from that of a reading to another one, so that at each of them one of the readings holds. All show the same as this one, which holds at its own minute.
func (w space) fewest(r api.GsReading, to int) []int {
	from := r.Minute
	var until [api.MaxGsMinutes + 1]int
	for m := from; m <= to; m++ {
		r.Minute = m
		until[m] = w.holds(r)
	}
	// The fewest readings from each minute on, of which the first one is at this minute.
	var lists [api.MaxGsMinutes + 1][]int
minutes:
	for m := to; m >= from; m-- {
		for earlier := from; earlier < m; earlier++ {
			// To read at m does not help: the reading of an earlier minute holds as long, and a list with that one comes first.
			if until[earlier] >= until[m] {
				continue minutes
			}
		}
		var rest []int
		if until[m] < to {
			rest = shortest(lists[m+1 : until[m]+2])
		}
		lists[m] = append([]int{m}, rest...)
	}
	return lists[from]
}

// shortest returns the first of the shortest lists that are not empty.
func shortest(lists [][]int) []int {
	var best []int
	for _, l := range lists {
		if len(best) == 0 || len(l) > 0 && len(l) < len(best) {
			best = l
		}
	}
	return best
}
