package gas

import (
	"slices"

	"orlop/api"
	"orlop/hull"
	"orlop/limits"
)

// Check returns the part, the index in it and the error of a space. The part is 1 for its levels, 2 for the minutes with a blower, and 3 for the instruments.
func Check(s api.GsSpace) (part, at int, e api.Errno) {
	if e := levelsFault(s); e != api.OK {
		return 1, 0, e
	}
	if at, e := blowsFault(s.Blows); e != api.OK {
		return 2, at, e
	}
	if at, e := toolsFault(s.Tools); e != api.OK {
		return 3, at, e
	}
	return 0, 0, api.OK
}

// levelsFault returns the error of a space, but for its minutes with a blower and its instruments.
func levelsFault(s api.GsSpace) api.Errno {
	if !limits.SpansWithin(0, api.MaxGsLevel, s.Start) || !limits.SpansWithin(-api.MaxGsRise, api.MaxGsRise, s.Rise, s.Blow) || !limits.Within(0, api.MaxGsLevel, s.Limit) {
		return api.ErrRange
	}
	if limits.Turned(s.Start, s.Rise, s.Blow) {
		return api.ErrArg
	}
	return api.OK
}

// blowsFault returns the first span of minutes with an error, and this error.
func blowsFault(blows []api.Span) (at int, e api.Errno) {
	if len(blows) > api.MaxGsBlows {
		return 0, api.ErrLong
	}
	return firstFault(blows, func(b api.Span, before []api.Span) api.Errno {
		if !limits.SpansWithin(0, api.MaxGsMinutes, b) {
			return api.ErrRange
		}
		if limits.Turned(b) || len(before) > 0 && b.Lo <= before[len(before)-1].Hi {
			return api.ErrArg
		}
		return api.OK
	})
}

// toolsFault returns the first instrument with an error, and this error.
func toolsFault(tools []api.GsTool) (at int, e api.Errno) {
	if !limits.Within(1, api.MaxGsTools, len(tools)) {
		return 0, api.ErrLong
	}
	return firstFault(tools, func(t api.GsTool, before []api.GsTool) api.Errno {
		if !hull.Name(t.Name) {
			return api.ErrForm
		}
		if slices.ContainsFunc(before, func(u api.GsTool) bool { return u.Name == t.Name }) {
			return api.ErrTwice
		}
		if !limits.Within(0, api.MaxGsErr, t.Err) {
			return api.ErrRange
		}
		return api.OK
	})
}

// readingsFault returns the error of the readings of a space without one.
func readingsFault(s api.GsSpace, l []api.GsReading) api.Errno {
	if len(l) > api.MaxGsReadings {
		return api.ErrLong
	}
	_, e := firstFault(l, func(r api.GsReading, _ []api.GsReading) api.Errno { return readingFault(s, r) })
	return e
}

// readingFault returns the error of a reading of a space without one.
func readingFault(s api.GsSpace, r api.GsReading) api.Errno {
	if !limits.Within(0, len(s.Tools)-1, r.Tool) {
		return api.ErrNone
	}
	if !limits.Within(0, api.MaxGsMinutes, r.Minute) || !limits.Within(-api.MaxGsErr, api.MaxGsShown, r.Shown) {
		return api.ErrRange
	}
	return api.OK
}

// firstFault returns the first element of a list with an error, and this error, which a function finds from the element and from those before it.
func firstFault[T any](list []T, fault func(x T, before []T) api.Errno) (at int, e api.Errno) {
	for i, x := range list {
		if e := fault(x, list[:i]); e != api.OK {
			return i, e
		}
	}
	return 0, api.OK
}
