// Package names checks names within lists. It is no layer: all layers above hull may call it.
package names

import (
	"slices"

	"orlop/api"
	"orlop/hull"
)

// Fault returns the error of the name of the element of a list that has an index: ErrForm if it is none, or ErrTwice if one before it has the same.
func Fault[T any](list []T, at int, name func(T) string) api.Errno {
	own := name(list[at])
	if !hull.Name(own) {
		return api.ErrForm
	}
	if slices.ContainsFunc(list[:at], func(x T) bool { return name(x) == own }) {
		return api.ErrTwice
	}
	return api.OK
}
