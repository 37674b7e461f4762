package pawn

import (
	"slices"

	"ceroplast/api"
	"ceroplast/check"
	"ceroplast/mould"
)

// Check returns the part, the index in it and the error of a show.
func Check(s api.PaShow) (part, at int, e api.Errno) {
	if at, e := check.List(s.Gowns, api.MaxPaGowns, gownError); e != api.OK {
		return 1, at, e
	}
	if at, e := check.List(s.Figures, api.MaxPaFigures, figureError); e != api.OK {
		return 2, at, e
	}
	if !check.Within(0, api.MaxPaPence, s.Purse) {
		return 3, 0, api.ErrRange
	}
	if at, e := check.List(s.Incomes, api.MaxPaIncomes, incomeError); e != api.OK {
		return 4, at, e
	}
	return 0, 0, api.OK
}

func gownError(before []api.PaGown, g api.PaGown) api.Errno {
	switch {
	case !mould.Name(g.Name):
		return api.ErrForm
	case slices.ContainsFunc(before, func(other api.PaGown) bool { return other.Name == g.Name }):
		return api.ErrTwice
	case !check.Within(0, api.MaxPaLooks, g.Looks), !isPawnedAsStated(g):
		return api.ErrRange
	}
	return api.OK
}

// isPawnedAsStated reports whether the numbers of a gown about the pawnbroker are as stated.
func isPawnedAsStated(g api.PaGown) bool {
	if !g.Pawn {
		return check.Within(0, 0, g.Loan, g.Rate, g.Fee, g.Ago, g.Last)
	}
	return check.Within(0, api.MaxPaLoan, g.Loan) &&
		check.Within(0, api.MaxPaRate, g.Rate) &&
		check.Within(0, api.MaxPaFee, g.Fee) &&
		check.Within(0, api.MaxDay, g.Ago, g.Last)
}

func figureError(before []api.PaFigure, f api.PaFigure) api.Errno {
	switch {
	case !mould.Name(f.Name):
		return api.ErrForm
	case slices.ContainsFunc(before, func(other api.PaFigure) bool { return other.Name == f.Name }):
		return api.ErrTwice
	case !check.Within(0, api.MaxDay, f.Day, f.Until), !check.Within(0, api.MaxPaLooks, f.Needs):
		return api.ErrRange
	case f.Day > f.Until:
		return api.ErrArg
	}
	return api.OK
}

func incomeError(_ []api.PaIncome, i api.PaIncome) api.Errno {
	if !check.Within(0, api.MaxDay, i.Day) || !check.Within(0, api.MaxPaPence, i.Pence) {
		return api.ErrRange
	}
	return api.OK
}

func (l look) planError(uses []api.PaUse) api.Errno {
	if len(uses) != len(l.Figures) {
		return api.ErrLong
	}
	_, e := check.First(uses, func(before []api.PaUse, u api.PaUse) api.Errno {
		isSame := func(other api.PaUse) bool { return other.Gown == u.Gown }
		switch {
		case u.Gown == api.PaNone:
		case !check.IsIndex(len(l.Gowns), u.Gown):
			return api.ErrNone
		case slices.ContainsFunc(before, isSame):
			return api.ErrTwice
		}
		return l.useError(len(before), u)
	})
	return e
}

// useError returns the error of a use of a gown, or of none, for a figure alone.
func (l look) useError(figure int, u api.PaUse) api.Errno {
	if u == bare() {
		return api.OK
	}
	if u.Gown == api.PaNone || !check.IsIndex(len(l.ways), u.How) {
		return api.ErrArg
	}
	w, g, f := l.ways[u.How], l.Gowns[u.Gown], l.Figures[figure]
	switch {
	case w.pawned != g.Pawn, !check.Within(0, w.lastDay, u.Day):
		return api.ErrArg
	case f.Needs&^g.Looks != 0, !w.inTime(g, f, u.Day):
		return api.ErrDown
	}
	return api.OK
}
