package tide

import (
	"orlop/api"
	"orlop/limits"
)

// shore is a beach that is looked at, and the ship that is run ashore there.
type shore struct {
	api.TdBeach
	api.TdShip
}

// look returns the shore of a beach and a ship; or their error, or else that of the run.
func look(b api.TdBeach, s api.TdShip, run api.TdPull) (shore, api.Errno) {
	if _, _, e := Check(b, s); e != api.OK {
		return shore{}, e
	}
	l := shore{b, s}
	return l, l.fault(run)
}

// fault returns the error of a run, or of a pull alone.
func (l shore) fault(p api.TdPull) api.Errno {
	if !limits.Within(0, len(l.Tides)-1, p.Tide) {
		return api.ErrNone
	}
	if !limits.Within(0, api.MaxTdBallast, p.Ballast) {
		return api.ErrRange
	}
	return api.OK
}

// pullsFault returns the error of pulls after a run without one.
func (l shore) pullsFault(run api.TdPull, pulls []api.TdPull) api.Errno {
	if len(pulls) > api.MaxTdPulls {
		return api.ErrLong
	}
	before := run.Tide
	for _, p := range pulls {
		if e := l.fault(p); e != api.OK {
			return e
		}
		if p.Tide <= before {
			return api.ErrArg
		}
		before = p.Tide
	}
	return api.OK
}

// does reports whether a tide does: the ship surely stops within the marks on it.
func (l shore) does(tide, ballast int) bool {
	return l.on(api.TdPull{Tide: tide, Ballast: ballast}).surely()
}

// on returns the view of the shore on the tide of a run.
func (l shore) on(run api.TdPull) view {
	t := l.Tides[run.Tide]
	return view{l, box{l.Slope, l.Draft, t.Height, t.Wind}, -l.Sink * run.Ballast}
}

// lies returns where the ship can lie after a run and pulls.
func (l shore) lies(run api.TdPull, pulls ...api.TdPull) api.Span {
	at := l.on(run).reach()
	for _, p := range pulls {
		v := l.on(p)
		v.lift += l.Bite
		r := v.reach()
		// One slope and one draft are true on all tides. Still the ends can be found tide by tide: whatever the slope and the draft are, the tide that lifts her highest takes her farthest.
		at = api.Span{Lo: max(at.Lo, r.Lo), Hi: max(at.Hi, r.Hi)}
	}
	return at
}
