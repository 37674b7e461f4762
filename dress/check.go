package dress

import (
	"slices"

	"ceroplast/api"
	"ceroplast/check"
	"ceroplast/mould"
)

// Check returns the part, the index in it and the error of a room.
func Check(r api.DrRoom) (part, at int, e api.Errno) {
	if at, e := numbersError(r.Costs, api.MaxDrKinds, api.MaxDrCost); e != api.OK {
		return 1, at, e
	}
	if at, e := numbersError(r.Ounces, api.MaxDrColours, api.MaxDrOunces); e != api.OK {
		return 2, at, e
	}
	if at, e := looksError(r, r.Figures, api.MaxDrFigures, 0); e != api.OK {
		return 3, at, e
	}
	if at, e := looksError(r, r.Persons, api.MaxDrPersons, api.DrAny); e != api.OK {
		return 4, at, e
	}
	return 0, 0, api.OK
}

// numbersError returns the index and the error of from 1 to many numbers, from 0 to most.
func numbersError(numbers []int, many, most int) (int, api.Errno) {
	if len(numbers) == 0 {
		return 0, api.ErrLong
	}
	return check.List(numbers, many, func(_ []int, n int) api.Errno {
		if !check.Within(0, most, n) {
			return api.ErrRange
		}
		return api.OK
	})
}

// looksError returns the index and the error of at most so many figures, or persons, whose looks are numbers from least on.
func looksError(r api.DrRoom, list []api.DrLook, many, least int) (int, api.Errno) {
	return check.List(list, many, func(before []api.DrLook, x api.DrLook) api.Errno {
		switch {
		case !mould.Name(x.Name):
			return api.ErrForm
		case slices.ContainsFunc(before, func(other api.DrLook) bool { return other.Name == x.Name }):
			return api.ErrTwice
		case len(x.Looks) != len(r.Costs):
			return api.ErrLong
		case !check.Within(least, len(r.Ounces)-1, x.Looks[hair]):
			return api.ErrNone
		case !check.Within(least, api.MaxDrLook, x.Looks[hair+1:]...), !check.Within(0, api.MaxDrOunces, x.Hair):
			return api.ErrRange
		}
		return api.OK
	})
}
