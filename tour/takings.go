package tour

import (
	"cmp"

	"ceroplast/api"
	"ceroplast/sets"
)

// aim is whether less or more is looked for: which end of a span, and how numbers are compared, so that what is looked for comes first.
type aim struct {
	end     func(s api.Span) int
	compare func(a, b int) int
}

func atLeast() aim {
	return aim{
		end:     func(s api.Span) int { return s.Lo },
		compare: cmp.Compare[int],
	}
}

func atMost() aim {
	return aim{
		end:     func(s api.Span) int { return s.Hi },
		compare: func(a, b int) int { return cmp.Compare(b, a) },
	}
}

// takings is what was taken up to a day, at least or at most, for each way in which the rival can be, and was, in towns.
type takings map[rival]int

// add adds a way, unless with it more was taken than is looked for.
func (t takings) add(r rival, pence int, a aim) {
	if other, found := t[r]; !found || a.compare(pence, other) < 0 {
		t[r] = pence
	}
}

// been returns the towns, as bits, in which the rival surely was, and those in which it surely or perhaps was.
func (t takings) been() (must, may int) {
	must = 1<<api.MaxToTowns - 1
	for r := range t {
		must &= r.been
		may |= r.been
	}
	return must, may
}

// sale is a day of a stay in a town: what is taken if the rival has not been there, and if it has.
type sale struct{ town, before, after int }

func (v view) sale(town, day int, a aim) sale {
	all := a.end(v.Towns[town].Takes)
	for _, fair := range v.Fairs {
		if fair.Town == town && fair.Day == day {
			all += a.end(fair.More)
		}
	}
	return sale{town, all, all * v.Towns[town].After / whole}
}

// takes returns what is taken, as the rival is, and was, in these towns.
func (s sale) takes(r rival) int {
	if sets.Has(r.been, s.town) {
		return s.after
	}
	return s.before
}
