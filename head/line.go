package head

import (
	"ceroplast/api"
	"ceroplast/sets"
)

// Kinds of what a line names in a field.
const (
	nothing = iota
	one     // body or head, by its index
	several // bodies, as bits
)

// kind is what lines of a kind name, and what they say.
type kind struct {
	names [5]int                                      // in A, B, C, D and Set
	can   func(line api.HeLine, pair api.HePair) bool // whether the heads of a pair can be the ones that were exchanged
	isSo  func(line api.HeLine, now holding) bool     // whether what was seen is so
}

// kinds returns all kinds of lines, in order.
func kinds() [5]kind {
	return [...]kind{
		api.HeSwap:   {[5]int{one, one}, isSwap, nothingSeen},
		api.HeEither: {[5]int{one, one, one, one}, isEither, nothingSeen},
		api.HeSome:   {[5]int{4: several}, isSome, nothingSeen},
		api.HeSeen:   {[5]int{one, one}, isNone, has},
		api.HeNot:    {[5]int{one, one}, isNone, hasNot},
	}
}

func isSwap(line api.HeLine, pair api.HePair) bool { return pair == pairOf(line.A, line.B) }

func isEither(line api.HeLine, pair api.HePair) bool {
	return pair == pairOf(line.A, line.B) || pair == pairOf(line.C, line.D)
}

func isSome(line api.HeLine, pair api.HePair) bool {
	return pair.A < pair.B && sets.Has(line.Set, pair.A) && sets.Has(line.Set, pair.B)
}

func isNone(_ api.HeLine, pair api.HePair) bool { return pair == none() }

func pairOf(a, b int) api.HePair { return api.HePair{A: min(a, b), B: max(a, b)} }

// none returns the pair of a line that says what was seen. To exchange its heads changes nothing.
func none() api.HePair { return api.HePair{} }

func nothingSeen(api.HeLine, holding) bool { return true }

func has(line api.HeLine, now holding) bool { return now[line.A] == line.B }

func hasNot(line api.HeLine, now holding) bool { return now[line.A] != line.B }

// pairsOf returns the pairs that a truth can give a line, in order.
func pairsOf(line api.HeLine) []api.HePair {
	can := kinds()[line.Kind].can
	var pairs []api.HePair
	for a := range api.MaxHeBodies {
		for b := range api.MaxHeBodies {
			if pair := (api.HePair{A: a, B: b}); can(line, pair) {
				pairs = append(pairs, pair)
			}
		}
	}
	return pairs
}
