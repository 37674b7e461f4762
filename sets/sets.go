// Package sets has sets of things that have indices, as bits, as several layers go through them.
package sets

import "math/bits"

// Has reports whether a thing is in a set.
func Has(set, thing int) bool { return set>>thing&1 == 1 }

// List returns the things of a set, ascending.
func List(set int) []int {
	var list []int
	for thing := range bits.Len(uint(set)) {
		if Has(set, thing) {
			list = append(list, thing)
		}
	}
	return list
}

// Fewer reports whether a set is smaller than another one, or as large, but the first one of the two as a list.
func Fewer(a, b int) bool {
	if n, m := bits.OnesCount(uint(a)), bits.OnesCount(uint(b)); n != m {
		return n < m
	}
	differ := a ^ b
	first := differ & -differ
	return a&first != 0
}

// Fewest returns the first of the smallest sets, of so many things, that do. The set of all things does, if no other one.
func Fewest(things int, does func(set int) bool) int {
	best := 1<<things - 1
	for set := range best {
		if Fewer(set, best) && does(set) {
			best = set
		}
	}
	return best
}
