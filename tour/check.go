package tour

import (
	"slices"

	"ceroplast/api"
	"ceroplast/check"
	"ceroplast/mould"
)

// whole is all parts of what is taken.
const whole = 100

// Check returns the part, the index in it and the error of a season.
func Check(s api.ToSeason) (part, at int, e api.Errno) {
	if !check.Within(1, api.MaxToDays, s.Days) {
		return 1, 0, api.ErrRange
	}
	if len(s.Towns) == 0 {
		return 2, 0, api.ErrLong
	}
	if at, e := check.List(s.Towns, api.MaxToTowns, townError); e != api.OK {
		return 2, at, e
	}
	p := places{s}
	if at, e := check.List(s.Roads, api.MaxToRoads, p.roadError); e != api.OK {
		return 3, at, e
	}
	if at, e := check.List(s.Fairs, api.MaxToFairs, p.fairError); e != api.OK {
		return 4, at, e
	}
	if !p.areTowns(s.Home, s.Rival) {
		return 5, 0, api.ErrNone
	}
	if at, e := check.List(s.Seen, api.MaxToSeen, p.seenError); e != api.OK {
		return 6, at, e
	}
	return 0, 0, api.OK
}

func townError(before []api.ToTown, t api.ToTown) api.Errno {
	switch {
	case !mould.Name(t.Name):
		return api.ErrForm
	case slices.ContainsFunc(before, func(other api.ToTown) bool { return other.Name == t.Name }):
		return api.ErrTwice
	case !check.Within(0, api.MaxToPence, t.Takes.Lo, t.Takes.Hi, t.Rent), !check.Within(0, whole, t.After):
		return api.ErrRange
	case t.Takes.Lo > t.Takes.Hi:
		return api.ErrArg
	}
	return api.OK
}

// places is a season of which the days and the towns have no error, but perhaps what names them.
type places struct{ api.ToSeason }

func (p places) areTowns(indices ...int) bool { return check.IsIndex(len(p.Towns), indices...) }

func (p places) isDay(day int) bool { return check.IsIndex(p.Days, day) }

func (p places) roadError(before []api.ToRoad, r api.ToRoad) api.Errno {
	switch {
	case !p.areTowns(r.A, r.B):
		return api.ErrNone
	case r.A >= r.B:
		return api.ErrArg
	case slices.ContainsFunc(before, func(other api.ToRoad) bool { return other.A == r.A && other.B == r.B }):
		return api.ErrTwice
	case !check.Within(1, api.MaxToLong, r.Long), !check.Within(0, api.MaxToPence, r.Cost):
		return api.ErrRange
	}
	return api.OK
}

func (p places) fairError(_ []api.ToFair, f api.ToFair) api.Errno {
	switch {
	case !p.areTowns(f.Town):
		return api.ErrNone
	case !p.isDay(f.Day):
		return api.ErrRange
	}
	return check.Spans(0, api.MaxToPence, f.More)
}

func (p places) seenError(_ []api.ToSeen, s api.ToSeen) api.Errno {
	switch {
	case !p.areTowns(s.Town):
		return api.ErrNone
	case !p.isDay(s.Day):
		return api.ErrRange
	}
	return api.OK
}
