package bill

import (
	"iter"
	"slices"

	"ceroplast/api"
	"ceroplast/check"
)

// What an entry says, numbered as by api.
const (
	saysIs = iota
	saysEither
	saysMay
	manySayings
)

// saying is what an entry can say of its figures, A and B.
type saying struct {
	isTrue func(a, b int) bool
	words  func(a, b int) []string
}

// places is in how many entries of a catalogue each figure is.
type places [api.MaxBiFigures]int

// sayings returns what entries can say, in the order of its numbers.
func (l look) sayings() [manySayings]saying {
	return [manySayings]saying{
		saysIs:     {l.isShown, l.wordsOfIs},
		saysEither: {l.standForEachOther, l.wordsOfEither},
		saysMay:    {l.mayBeShown, l.wordsOfMay},
	}
}

func (l look) isShown(a, b int) bool { return b == 0 && l.surely(setOf(a)) }

func (l look) standForEachOther(a, b int) bool {
	return a < b && l.Figures[a].Room == l.Figures[b].Room &&
		!l.surely(setOf(a)) && !l.surely(setOf(b)) && l.surely(setOf(a, b))
}

func (l look) mayBeShown(a, b int) bool { return b == 0 && l.arrives(a) && !l.surely(setOf(a)) }

// entriesOf yields the entries with this figure as A that can be in a catalogue that is true, in order.
func (l look) entriesOf(a int) iter.Seq[api.BiEntry] {
	return func(yield func(api.BiEntry) bool) {
		for says, s := range l.sayings() {
			for b := range len(l.Figures) {
				if s.isTrue(a, b) && !yield(api.BiEntry{Says: says, A: a, B: b}) {
					return
				}
			}
		}
	}
}

// holds reports whether an entry, whatever its numbers are, can be in a catalogue that is true.
func (l look) holds(e api.BiEntry) bool {
	if !check.IsIndex(len(l.Figures), e.A) {
		return false
	}
	for other := range l.entriesOf(e.A) {
		if other == e {
			return true
		}
	}
	return false
}

// figuresOf returns the figures that are in an entry.
func figuresOf(e api.BiEntry) []int {
	if e.Says == saysEither {
		return []int{e.A, e.B}
	}
	return []int{e.A}
}

// placesOf returns the places of the figures in entries that hold.
func placesOf(c []api.BiEntry) places {
	var in places
	for _, e := range c {
		for _, figure := range figuresOf(e) {
			in[figure]++
		}
	}
	return in
}

// allPlaced returns the places of the figures in a catalogue that is true.
func (l look) allPlaced() places {
	var in places
	for figure := range len(l.Figures) {
		if l.arrives(figure) {
			in[figure] = 1
		}
	}
	return in
}

// hasAny reports whether any of these figures is in an entry.
func (in places) hasAny(figures ...int) bool {
	return slices.ContainsFunc(figures, func(figure int) bool { return in[figure] > 0 })
}

// isTrue reports whether a catalogue is true.
func (l look) isTrue(c []api.BiEntry) bool {
	for i, e := range c {
		if !l.holds(e) || i > 0 && e.A <= c[i-1].A {
			return false
		}
	}
	return placesOf(c) == l.allPlaced()
}

// catalogues yields all catalogues that are true, in order, each one in memory of its own.
func (l look) catalogues() iter.Seq[[]api.BiEntry] {
	allPlaced := l.allPlaced()
	return func(yield func([]api.BiEntry) bool) {
		var extend func(figure int, c []api.BiEntry) bool
		extend = func(figure int, c []api.BiEntry) bool {
			in := placesOf(c)
			if in == allPlaced {
				return yield(c)
			}
			if in[figure] == allPlaced[figure] {
				return extend(figure+1, c)
			}
			// No entry behind this one can have the figure, as its A is a greater one.
			for e := range l.entriesOf(figure) {
				if !in.hasAny(figuresOf(e)...) && !extend(figure+1, with(c, e)) {
					return false
				}
			}
			return true
		}
		extend(0, nil)
	}
}

// with returns entries and one more, in new memory.
func with(c []api.BiEntry, e api.BiEntry) []api.BiEntry {
	longer := make([]api.BiEntry, len(c)+1)
	copy(longer, c)
	longer[len(c)] = e
	return longer
}

// mays returns of how many figures a catalogue says that they may be shown.
func mays(c []api.BiEntry) int {
	many := 0
	for _, e := range c {
		if e.Says == saysMay {
			many++
		}
	}
	return many
}
