package grade

import "orlop/api"

// share is a share in lowest terms with In above 0, so that equal shares are equal structs. In all shares of the package Of is less than 2^35 and In less than 2^28, so that their products are exact.
type share api.GrShare

// shareOf returns the share of a number by one above 0.
func shareOf(of, in int) share {
	d := divisor(of, in)
	return share{Of: of / d, In: in / d}
}

// divisor returns the greatest number that divides two numbers, of which the second one is above 0.
func divisor(x, y int) int {
	for x != 0 {
		x, y = y%x, x
	}
	return y
}

// below reports whether a share is less than another one.
func (s share) below(t share) bool { return s.Of*t.In < t.Of*s.In }

// above reports whether a share is more than another one.
func (s share) above(t share) bool { return t.below(s) }

// atMost reports whether a share is no more than another one.
func (s share) atMost(t share) bool { return s == t || s.below(t) }

// foremost returns the first element of a list with elements before which no other one comes.
func foremost[T any](l []T, before func(x, y T) bool) T {
	found := l[0]
	for _, x := range l[1:] {
		if before(x, found) {
			found = x
		}
	}
	return found
}

// ends returns the least and the greatest of some shares.
func ends(l []share) (least, most api.GrShare) {
	return api.GrShare(foremost(l, share.below)), api.GrShare(foremost(l, share.above))
}
