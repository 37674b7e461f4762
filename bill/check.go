package bill

import (
	"slices"

	"ceroplast/api"
	"ceroplast/check"
	"ceroplast/mould"
)

// Check returns the part, the index in it and the error of a show.
func Check(s api.BiShow) (part, at int, e api.Errno) {
	if !check.Within(api.MinBiLines, api.MaxBiLines, s.Lines) {
		return 1, 0, api.ErrRange
	}
	if at, e := check.List(s.Figures, api.MaxBiFigures, figureError); e != api.OK {
		return 2, at, e
	}
	if len(s.Truths) == 0 {
		return 3, 0, api.ErrLong
	}
	at, e = check.List(s.Truths, api.MaxBiTruths, func(before []int, truth int) api.Errno {
		return truthError(len(s.Figures), before, truth)
	})
	if e != api.OK {
		return 3, at, e
	}
	return 0, 0, api.OK
}

func figureError(before []api.BiFigure, f api.BiFigure) api.Errno {
	switch {
	case !mould.Name(f.Name):
		return api.ErrForm
	case slices.ContainsFunc(before, func(other api.BiFigure) bool { return other.Name == f.Name }):
		return api.ErrTwice
	case !mould.Name(f.As):
		return api.ErrForm
	case !check.Within(0, api.MaxBiRoom, f.Room), !check.Within(1, api.MaxBiHeight, f.Height):
		return api.ErrRange
	case len(before) > 0 && f.Room < before[len(before)-1].Room:
		return api.ErrArg
	}
	return api.OK
}

func truthError(figures int, before []int, truth int) api.Errno {
	switch {
	case !check.IsIndex(1<<figures, truth):
		return api.ErrNone
	case slices.Contains(before, truth):
		return api.ErrTwice
	}
	return api.OK
}
