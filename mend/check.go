package mend

import (
	"slices"

	"ceroplast/api"
	"ceroplast/check"
	"ceroplast/mould"
)

// Check returns the part, the index in it and the error of a row.
func Check(r api.MeRow) (part, at int, e api.Errno) {
	if at, e := check.List(r.Figures, api.MaxMeFigures, figureError); e != api.OK {
		return 1, at, e
	}
	at, e = check.First(r.Beside, func(before []api.MeStep, pair api.MeStep) api.Errno {
		return pairError(len(r.Figures), before, pair)
	})
	if e != api.OK {
		return 2, at, e
	}
	if r.Bench != api.MeNone && !check.IsIndex(len(r.Figures), r.Bench) {
		return 3, 0, api.ErrNone
	}
	return 0, 0, api.OK
}

func figureError(before []api.MeFigure, f api.MeFigure) api.Errno {
	switch {
	case !mould.Name(f.Name):
		return api.ErrForm
	case slices.ContainsFunc(before, func(other api.MeFigure) bool { return other.Name == f.Name }):
		return api.ErrTwice
	case !check.Within(0, api.MaxMeKind, f.Has), !check.Within(api.MeAny, api.MaxMeKind, f.Wants):
		return api.ErrRange
	}
	return api.OK
}

func pairError(figures int, before []api.MeStep, pair api.MeStep) api.Errno {
	switch {
	case !check.IsIndex(figures, pair.A, pair.B):
		return api.ErrNone
	case pair.A >= pair.B:
		return api.ErrArg
	case slices.Contains(before, pair):
		return api.ErrTwice
	}
	return api.OK
}
