package tide

import (
	"orlop/api"
	"orlop/limits"
)

// Check returns the part, the index in it and the error of a beach and a ship. The part is 1 for the beach without its tides, 2 for the tides, and 3 for the ship.
func Check(b api.TdBeach, s api.TdShip) (part, at int, e api.Errno) {
	if e := beachFault(b); e != api.OK {
		return 1, 0, e
	}
	if at, e := tidesFault(b.Tides); e != api.OK {
		return 2, at, e
	}
	if e := shipFault(s); e != api.OK {
		return 3, 0, e
	}
	return 0, 0, api.OK
}

// beachFault returns the error of a beach, but for its tides.
func beachFault(b api.TdBeach) api.Errno {
	if !limits.SpansWithin(1, api.MaxTdSlope, b.Slope) || !limits.SpansWithin(-api.MaxTdFar, api.MaxTdFar, b.Marks) || !limits.Within(0, api.MaxTdBite, b.Bite) {
		return api.ErrRange
	}
	if limits.Turned(b.Slope, b.Marks) {
		return api.ErrArg
	}
	return api.OK
}

// tidesFault returns the first tide with an error, and this error.
func tidesFault(tides []api.TdTide) (at int, e api.Errno) {
	if !limits.Within(1, api.MaxTdTides, len(tides)) {
		return 0, api.ErrLong
	}
	day := 0
	for i, t := range tides {
		if !limits.Within(0, api.MaxDay, t.Day) || !limits.SpansWithin(0, api.MaxTdHeight, t.Height) || !limits.SpansWithin(-api.MaxTdWind, api.MaxTdWind, t.Wind) {
			return i, api.ErrRange
		}
		if limits.Turned(t.Height, t.Wind) || t.Day < day {
			return i, api.ErrArg
		}
		day = t.Day
	}
	return 0, api.OK
}

func shipFault(s api.TdShip) api.Errno {
	if !limits.SpansWithin(0, api.MaxTdDraft, s.Draft) || !limits.Within(0, api.MaxTdSink, s.Sink) {
		return api.ErrRange
	}
	if limits.Turned(s.Draft) {
		return api.ErrArg
	}
	return api.OK
}
