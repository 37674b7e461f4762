package head

import (
	"iter"
	"slices"

	"ceroplast/api"
	"ceroplast/check"
)

// holding is which head each body has. Behind the bodies each number has itself.
type holding [api.MaxHeBodies]int

// exchanged returns who has which head once those of a pair are exchanged.
func (h holding) exchanged(pair api.HePair) holding {
	h[pair.A], h[pair.B] = h[pair.B], h[pair.A]
	return h
}

// bodyOf returns the body that has a head.
func (h holding) bodyOf(head int) int { return slices.Index(h[:], head) }

// look is a book without an error that is looked at.
type look struct {
	api.HeBook
	steps []step
}

// step is lines behind each other of which only the first one can exchange heads.
type step struct {
	at    int // the index of the first one
	lines []api.HeLine
	pairs []api.HePair // that a truth can give the first one
}

// truth is the pair of each line, and who has which head before each step, and behind all of them.
type truth struct {
	pairs [api.MaxHeLines]api.HePair
	now   [api.MaxHeLines + 1]holding
}

// open returns the look at a book, or the error of the book.
func open(b api.HeBook) (look, api.Errno) {
	if _, _, e := Check(b); e != api.OK {
		return look{}, e
	}
	return lookAt(b), api.OK
}

// openOf returns the look at a book of which something is asked about a body, or about a head.
func openOf(b api.HeBook, index int) (look, api.Errno) {
	l, e := open(b)
	if e != api.OK {
		return look{}, e
	}
	if !check.IsIndex(len(l.Bodies), index) {
		return look{}, api.ErrNone
	}
	return l, api.OK
}

func lookAt(b api.HeBook) look {
	l := look{HeBook: b}
	for i, line := range l.Lines {
		pairs := pairsOf(line)
		if i == 0 || pairs[0] != none() {
			l.steps = append(l.steps, step{at: i, pairs: pairs})
		}
		last := &l.steps[len(l.steps)-1]
		last.lines = l.Lines[last.at : i+1]
	}
	return l
}

// truths yields all truths, in order.
func (l look) truths() iter.Seq[truth] {
	return func(yield func(truth) bool) {
		var t truth
		for i := range t.now[0] {
			t.now[0][i] = i
		}
		known := kinds()
		var tell func(n int) bool
		tell = func(n int) bool {
			if n == len(l.steps) {
				return yield(t)
			}
			s := l.steps[n]
		pairs:
			for _, pair := range s.pairs {
				t.pairs[s.at] = pair
				t.now[n+1] = t.now[n].exchanged(pair)
				for _, line := range s.lines {
					if !known[line.Kind].isSo(line, t.now[n+1]) {
						continue pairs
					}
				}
				if !tell(n + 1) {
					return false
				}
			}
			return true
		}
		tell(0)
	}
}

// isPossible reports whether there is a truth.
func (l look) isPossible() bool {
	for range l.truths() {
		return true
	}
	return false
}

// ways returns the different ways in which the bodies have the heads on a day.
func (l look) ways(day int) (map[holding]bool, api.Errno) {
	if !check.Within(0, api.MaxDay, day) {
		return nil, api.ErrRange
	}
	done := 0
	for _, s := range l.steps {
		if s.lines[0].Day <= day {
			done++
		}
	}
	ways := map[holding]bool{}
	for t := range l.truths() {
		ways[t.now[done]] = true
	}
	if len(ways) == 0 {
		return nil, api.ErrZero
	}
	return ways, api.OK
}
