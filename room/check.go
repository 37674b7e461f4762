package room

import (
	"slices"

	"ceroplast/api"
	"ceroplast/check"
	"ceroplast/mould"
)

// Check returns the part, the index in it and the error of a house.
func Check(h api.RoHouse) (part, at int, e api.Errno) {
	if e := check.Spans(-api.MaxRoDegrees, api.MaxRoDegrees, h.Weather); e != api.OK {
		return 1, 0, e
	}
	if !check.Within(0, api.MaxRoStoves, h.Stoves) {
		return 2, 0, api.ErrRange
	}
	if at, e := check.List(h.Holds, api.MaxRoJoists, holdsError); e != api.OK {
		return 3, at, e
	}
	at, e = check.List(h.Places, api.MaxRoPlaces, func(before []api.RoPlace, p api.RoPlace) api.Errno {
		return placeError(h, before, p)
	})
	if e != api.OK {
		return 4, at, e
	}
	if at, e := check.List(h.Figures, api.MaxRoFigures, figureError); e != api.OK {
		return 5, at, e
	}
	if at, e := check.List(h.Bill, api.MaxRoBill, classError); e != api.OK {
		return 6, at, e
	}
	return 0, 0, api.OK
}

func holdsError(_ []int, holds int) api.Errno {
	if !check.Within(0, api.MaxRoHolds, holds) {
		return api.ErrRange
	}
	return api.OK
}

func placeError(h api.RoHouse, before []api.RoPlace, p api.RoPlace) api.Errno {
	switch {
	case !mould.Name(p.Name):
		return api.ErrForm
	case slices.ContainsFunc(before, func(other api.RoPlace) bool { return other.Name == p.Name }):
		return api.ErrTwice
	case len(p.Warms) != h.Stoves:
		return api.ErrLong
	}
	if e := check.Spans(0, api.MaxRoWarms, p.Warms...); e != api.OK {
		return e
	}
	if !check.IsIndex(1<<len(h.Holds), p.Joists) {
		return api.ErrNone
	}
	return api.OK
}

func figureError(before []api.RoFigure, f api.RoFigure) api.Errno {
	switch {
	case !mould.Name(f.Name):
		return api.ErrForm
	case slices.ContainsFunc(before, func(other api.RoFigure) bool { return other.Name == f.Name }):
		return api.ErrTwice
	case !isClass(f.Class),
		!check.Within(1, api.MaxRoWeight, f.Weight),
		!check.Within(-api.MaxRoDegrees, api.MaxRoDegrees, f.Cracks, f.Slumps),
		!check.Within(0, api.MaxRoWorth, f.Worth):
		return api.ErrRange
	case f.Cracks > f.Slumps:
		return api.ErrArg
	}
	return api.OK
}

func classError(_ []int, class int) api.Errno {
	if !isClass(class) {
		return api.ErrRange
	}
	return api.OK
}

func isClass(n int) bool { return check.Within(0, api.MaxRoClass, n) }

// litError returns the error of stoves that are lit.
func (l look) litError(lit int) api.Errno {
	if !check.IsIndex(1<<l.Stoves, lit) {
		return api.ErrRange
	}
	return api.OK
}

func (l look) planError(p api.RoPlan) api.Errno {
	if e := l.litError(p.Lit); e != api.OK {
		return e
	}
	if len(p.At) != len(l.Figures) {
		return api.ErrLong
	}
	for _, place := range p.At {
		if place != api.RoNone && !check.IsIndex(len(l.Places), place) {
			return api.ErrNone
		}
	}
	for figure, place := range p.At {
		if place != api.RoNone && slices.Contains(p.At[:figure], place) {
			return api.ErrTwice
		}
	}
	return api.OK
}
