package head

import (
	"math/bits"
	"slices"

	"ceroplast/api"
	"ceroplast/check"
	"ceroplast/mould"
)

// Check returns the part, the index in it and the error of a book.
func Check(b api.HeBook) (part, at int, e api.Errno) {
	if at, e := check.List(b.Bodies, api.MaxHeBodies, bodyError); e != api.OK {
		return 1, at, e
	}
	if len(b.Heads) != len(b.Bodies) {
		return 2, 0, api.ErrLong
	}
	if at, e := check.First(b.Heads, headError); e != api.OK {
		return 2, at, e
	}
	at, e = check.List(b.Lines, api.MaxHeLines, func(before []api.HeLine, line api.HeLine) api.Errno {
		return lineError(len(b.Bodies), before, line)
	})
	if e != api.OK {
		return 3, at, e
	}
	return 0, 0, api.OK
}

func bodyError(before []api.HeBody, b api.HeBody) api.Errno {
	switch {
	case !mould.Name(b.Name):
		return api.ErrForm
	case slices.ContainsFunc(before, func(other api.HeBody) bool { return other.Name == b.Name }):
		return api.ErrTwice
	}
	_, e := check.List(b.Shown, api.MaxHeShown, shownError)
	return e
}

func shownError(before []api.HeShown, s api.HeShown) api.Errno {
	switch {
	case !check.Within(0, api.MaxDay, s.Day):
		return api.ErrRange
	case len(before) > 0 && before[len(before)-1].Day >= s.Day:
		return api.ErrArg
	case !mould.Name(s.As):
		return api.ErrForm
	}
	return api.OK
}

func headError(before []string, name string) api.Errno {
	switch {
	case !mould.Name(name):
		return api.ErrForm
	case slices.Contains(before, name):
		return api.ErrTwice
	}
	return api.OK
}

func lineError(bodies int, before []api.HeLine, line api.HeLine) api.Errno {
	switch {
	case !check.Within(0, api.MaxDay, line.Day):
		return api.ErrRange
	case len(before) > 0 && before[len(before)-1].Day > line.Day:
		return api.ErrArg
	case !check.IsIndex(len(kinds()), line.Kind):
		return api.ErrRange
	}
	if e := fieldsError(bodies, line); e != api.OK {
		return e
	}
	if line.Kind == api.HeSome && countSome(before) >= api.MaxHeSome {
		return api.ErrLong
	}
	return api.OK
}

func countSome(lines []api.HeLine) int {
	many := 0
	for _, line := range lines {
		if line.Kind == api.HeSome {
			many++
		}
	}
	return many
}

// fieldsError returns the error of what a line names in its fields.
func fieldsError(bodies int, line api.HeLine) api.Errno {
	othersAreZero := true
	names := kinds()[line.Kind].names
	for i, number := range [...]int{line.A, line.B, line.C, line.D, line.Set} {
		switch names[i] {
		case one:
			if !check.IsIndex(bodies, number) {
				return api.ErrNone
			}
		case several:
			if !check.IsIndex(1<<bodies, number) {
				return api.ErrNone
			}
		default:
			othersAreZero = othersAreZero && number == 0
		}
	}
	if !othersAreZero || namesTooFew(line) {
		return api.ErrArg
	}
	return api.OK
}

// namesTooFew reports whether a line names one body, or none, where there must be two.
func namesTooFew(line api.HeLine) bool {
	switch line.Kind {
	case api.HeSwap:
		return line.A == line.B
	case api.HeEither:
		return line.A == line.B || line.C == line.D
	case api.HeSome:
		return bits.OnesCount(uint(line.Set)) < 2
	}
	return false
}
