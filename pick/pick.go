// Package pick has what several layers need to find the best of several things.
package pick

import "iter"

// Least returns the first of the least things, and whether there is any.
func Least[T any](things iter.Seq[T], compare func(a, b T) int) (T, bool) {
	var least T
	found := false
	for thing := range things {
		if !found || compare(thing, least) < 0 {
			least, found = thing, true
		}
	}
	return least, found
}
