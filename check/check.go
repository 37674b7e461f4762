// Package check has what several layers need to find the errors of their arguments.
package check

import "ceroplast/api"

// First returns the index of the first thing with an error, and this error; it may depend on the things before it.
func First[T any](things []T, find func(before []T, thing T) api.Errno) (int, api.Errno) {
	for i, thing := range things {
		if e := find(things[:i], thing); e != api.OK {
			return i, e
		}
	}
	return 0, api.OK
}

// List returns the index and the error of a list: ErrLong if it has more things than that, otherwise the error of the first thing with one.
func List[T any](things []T, most int, find func(before []T, thing T) api.Errno) (int, api.Errno) {
	if len(things) > most {
		return 0, api.ErrLong
	}
	return First(things, find)
}

// Spans returns the error of the first span with one: ErrRange if an end is not from lo to hi, ErrArg if Lo is above Hi.
func Spans(lo, hi int, spans ...api.Span) api.Errno {
	_, e := First(spans, func(_ []api.Span, s api.Span) api.Errno {
		switch {
		case !Within(lo, hi, s.Lo, s.Hi):
			return api.ErrRange
		case s.Lo > s.Hi:
			return api.ErrArg
		}
		return api.OK
	})
	return e
}

// Within reports whether all numbers are from lo to hi.
func Within(lo, hi int, numbers ...int) bool {
	for _, n := range numbers {
		if n < lo || n > hi {
			return false
		}
	}
	return true
}

// IsIndex reports whether all of these are indices of so many things.
func IsIndex(things int, indices ...int) bool { return Within(0, things-1, indices...) }
