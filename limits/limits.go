// Package limits checks numbers, spans and lists of indices against the ranges that the chapters state. It is no layer: all layers may call it.
package limits

import "orlop/api"

// Within reports whether all numbers are from lo to hi.
func Within(lo, hi int, numbers ...int) bool {
	for _, n := range numbers {
		if n < lo || n > hi {
			return false
		}
	}
	return true
}

// SpansWithin reports whether both ends of all spans are from lo to hi.
func SpansWithin(lo, hi int, spans ...api.Span) bool {
	for _, s := range spans {
		if !Within(lo, hi, s.Lo, s.Hi) {
			return false
		}
	}
	return true
}

// Turned reports whether some span has its Lo above its Hi.
func Turned(spans ...api.Span) bool {
	for _, s := range spans {
		if s.Lo > s.Hi {
			return true
		}
	}
	return false
}

// SpanFault returns the error of a span that is to be from lo to hi: ErrRange for an end, or ErrArg if it is turned.
func SpanFault(lo, hi int, s api.Span) api.Errno {
	if !SpansWithin(lo, hi, s) {
		return api.ErrRange
	}
	if Turned(s) {
		return api.ErrArg
	}
	return api.OK
}

// IndicesFault returns the error of the first number with one, of a list that is to have indices of so many things, ascending: ErrNone if it is no index, or ErrArg if it is not above the number before it.
func IndicesFault(list []int, things int) api.Errno {
	before := -1
	for _, i := range list {
		if !Within(0, things-1, i) {
			return api.ErrNone
		}
		if i <= before {
			return api.ErrArg
		}
		before = i
	}
	return api.OK
}
