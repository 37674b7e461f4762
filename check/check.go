// Package check has what several layers need to find the errors of their arguments.
package check

import "ceroplast/api"

// First returns the index of the first thing with an error, and this error; it may depend on the things before it.
func First[T any](things []T, find func(before []T, thing T) api.Errno) (int, api.Errno) {
	for i, thing := range things {
		if e := find(things[:i], thing); e != api.OK {
			return i, e
		}
	}
	return 0, api.OK
}

// Within reports whether all numbers are from lo to hi.
func Within(lo, hi int, numbers ...int) bool {
	for _, n := range numbers {
		if n < lo || n > hi {
			return false
		}
	}
	return true
}

// IsIndex reports whether all of these are indices of so many things.
func IsIndex(things int, indices ...int) bool { return Within(0, things-1, indices...) }
