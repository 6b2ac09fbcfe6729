// Package limits checks numbers and spans against the ranges that the chapters state. It is no layer: all layers may call it.
package limits

import "orlop/api"

// Within reports whether all numbers are from lo to hi.
func Within(lo, hi int, numbers ...int) bool {
	for _, n := range numbers {
		if n < lo || n > hi {
			return false
		}
	}
	return true
}

// SpansWithin reports whether both ends of all spans are from lo to hi.
func SpansWithin(lo, hi int, spans ...api.Span) bool {
	for _, s := range spans {
		if !Within(lo, hi, s.Lo, s.Hi) {
			return false
		}
	}
	return true
}

// Turned reports whether some span has its Lo above its Hi.
func Turned(spans ...api.Span) bool {
	for _, s := range spans {
		if s.Lo > s.Hi {
			return true
		}
	}
	return false
}
