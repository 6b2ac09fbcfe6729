package gas

import "orlop/api"

// levels is all levels that can be at a minute: those of its span, or none at all if it is the zero value.
type levels struct {
	api.Span
	some bool
}

// between returns the levels from lo to hi.
func between(lo, hi int) levels {
	if lo > hi {
		return levels{}
	}
	return levels{Span: api.Span{Lo: lo, Hi: hi}, some: true}
}

// common returns the levels that are in both.
func (l levels) common(m levels) levels {
	if l == (levels{}) || m == (levels{}) {
		return levels{}
	}
	return between(max(l.Lo, m.Lo), min(l.Hi, m.Hi))
}

// after returns the levels to which these can change in a minute.
func (l levels) after(change api.Span) levels {
	return between(held(l.Lo+change.Lo), held(l.Hi+change.Hi))
}

// held returns a level that stays from 0 to MaxGsLevel.
func held(level int) int { return max(0, min(level, api.MaxGsLevel)) }
